/-
  Texts in one file. Conditions: the tables and the errors read as laid.
-/
import Derived.Test.YtkagijifkpoplaaGreatDoorJT9
import Derived.Test.YtkagijifkpoplaaGreatDoorJT10
import Derived.Test.YtkagijifkpoplaaGreatDoorJT13
import Derived.Test.YtkagijifkpoplaaGreatDoorJT0
import Derived.Laws.BitsAllLaws
import Derived.Test.YtkagijifkpoplaaGreatDoorJT1
set_option linter.unusedVariables false
set_option linter.unusedSimpArgs false
set_option maxRecDepth 40000
set_option maxHeartbeats 20000000
namespace Go.Proofs.YtkagijifkpoplaaGreatDoor.Fdd
theorem hexk_len : ∀ (k n : Nat), (hexk k n).length = k
 | 0, _ => rfl
 | k + 1, n => by rw [hexk, List.length_append, hexk_len k]; rfl
theorem hexk_pad (m : Nat) : ∀ (k n : Nat), n < 16 ^ k → hexk (m + k) n = List.replicate m 48 ++ hexk k n
 | 0, n, h => by
   have h0 : n = 0 := by simpa using h
   subst h0
   have : ∀ m, hexk m 0 = List.replicate m 48 := fun m => by
    induction m with
    | zero => rfl
    | succ m ih => rw [hexk, Nat.zero_div, ih, List.replicate_succ']; rfl
   rw [Nat.add_zero, this]
   simp [hexk]
 | k + 1, n, h => by
   rw [show m + (k + 1) = (m + k) + 1 from rfl, hexk, hexk, hexk_pad m k (n / 16) (by rw [Nat.pow_succ] at h; omega), List.append_assoc]
theorem hex_idx {d : Nat} (h : d < 16) : hexs.idxOf (hexs.getD d 0) = d ∧ hexs.getD d 0 ∈ hexs := by
 have key : ∀ d : Fin 16, hexs.idxOf (hexs.getD d.val 0) = d.val ∧ hexs.getD d.val 0 ∈ hexs := by decide +kernel
 exact key ⟨d, h⟩
theorem hexk_only : ∀ (k n : Nat), onlyOf (hexk k n) hexs = true
 | 0, _ => rfl
 | k + 1, n => by
   have h1 := hexk_only k (n / 16)
   unfold onlyOf at h1 ⊢
   rw [hexk, List.all_append, h1]
   simp only [List.all_cons, List.all_nil, Bool.and_true, Bool.true_and]
   simpa using (hex_idx (Nat.mod_lt n (by decide : 0 < 16))).2
/-! ### rows of rising numbers -/
def Rise (l : List Int) : Prop := l.Pairwise (· < ·)
/-! ### the forms -/
theorem mfind_mem {no : Int} : ∀ {l : List (Int × Int × Int)} {r : Int × Int}, mfind no l = some r → (no, r) ∈ l
 | [], _, h => by cases h
 | x :: l, r, h => by
   unfold mfind at h
   split at h
   ·rename_i e
    injection h with h
    subst h
    subst e
    exact List.mem_cons_self ..
   ·exact List.mem_cons_of_mem _ (mfind_mem h)
theorem mrows_all : ∀ x ∈ mrows, (1 ≤ x.2.1 ∧ x.2.1 ≤ 5) ∧ (1 ≤ x.2.2 ∧ x.2.2 ≤ 64) ∧ (x.1 = 4 → x.2.2 = 12 ∧ x.2.1 = 1) ∧ (2 ≤ x.1 ∧ x.1 ≤ 97) ∧ x.1 ≠ 65 := by decide
theorem unsaid_len (d : Nat) (no : Int) : unsaid d no = [] ∨ (unsaid d no = [48, 48] ∧ d = 3 ∧ no = 4) := by
 unfold unsaid
 split
 ·exact .inr ⟨rfl, by assumption⟩
 ·exact .inl rfl
theorem form_nf {d : Nat} {no : Int} {m : Fm} (h : mform d no = some m) : ∃ k s : Nat, m = nf k s d ∧ (1 ≤ k ∧ k ≤ 5) ∧ (1 ≤ s ∧ s ≤ 64) ∧ (2 ≤ no ∧ no ≤ 97) ∧ no ≠ 65 ∧ mfind no mrows = some ((k : Int), ((s + (unsaid d no).length : Nat) : Int)) ∧ (no = 4 → k = 1 ∧ s + (unsaid d no).length = 12) := by
 unfold mform at h
 obtain ⟨r, hr, rfl⟩ := Option.map_eq_some_iff.1 h
 obtain ⟨⟨a1, a2⟩, ⟨b1, b2⟩, c, e, f⟩ := mrows_all _ (mfind_mem hr)
 simp only at a1 a2 b1 b2 c e f
 have hu : ((unsaid d no).length : Int) = 0 ∨ ((unsaid d no).length : Int) = 2 ∧ no = 4 := by
  rcases unsaid_len d no with h | ⟨h, _, h3⟩
  ·left; rw [h]; rfl
  ·right; rw [h]; exact ⟨rfl, h3⟩
 generalize hul : (unsaid d no).length = u at *
 refine ⟨r.1.toNat, (r.2 - u).toNat, ?_, by omega, ?_, e, f, ?_, fun e4 => ?_⟩
 ·unfold nf
  have hge : 0 ≤ r.2 - (u : Int) := by
   rcases hu with h | ⟨h, h4⟩
   ·omega
   ·have := c h4
    omega
  rw [Int.toNat_of_nonneg (by omega), Int.toNat_of_nonneg hge]
 ·rcases hu with h | ⟨h, h4⟩
  ·omega
  ·have := c h4
   omega
 ·rw [hr]
  congr 1
  refine Prod.ext ?_ ?_
  ·show r.1 = _
   omega
  ·show r.2 = _
   rcases hu with h | ⟨h, h4⟩
   ·omega
   ·have := c h4
    omega
 ·have := c e4
  rcases hu with h | ⟨h, h4⟩ <;> omega
theorem form_of {d d' : Nat} {no : Int} (h : (mform d no).isSome = true) : (mform d' no).isSome = true := by
 unfold mform at h ⊢
 rw [Option.isSome_map] at h ⊢
 exact h
theorem check_zero {k s c : Nat} {t : List UInt8} (hk : 1 ≤ k ∧ k ≤ 5) (hc : 1 ≤ c ∧ c ≤ 3) (hs : 1 ≤ s ∧ s ≤ 64) : (nf k s c).check t = 0 ↔ (nf k s c).right t = true := by
 unfold Fm.check
 rw [if_pos (may_nf hk hc hs)]
 constructor
 ·intro h
  by_cases hr : (nf k s c).right t = true
  ·exact hr
  ·rw [if_neg hr] at h
   cases h
 ·intro h
  rw [if_pos h]
theorem right_n {s c : Nat} {t : List UInt8} : (nf 1 s c).right t = true ↔ t.length = s ∧ onlyOf t dec = true := by
 rw [right_nl (by decide)]
 have e : ptsOf ((1 : Nat) : Int) (c : Int) s = [⟨s, dec, (rws (c : Int).toNat).d⟩] := rfl
 rw [e]
 unfold rightAll rightAll
 simp only [Bool.and_eq_true, decide_eq_true_eq, beq_iff_eq, List.drop_eq_nil_iff]
 constructor
 ·rintro ⟨h1, h2, h3⟩
  rw [List.take_of_length_le h3] at h2
  exact ⟨by omega, h2⟩
 ·rintro ⟨h1, h2⟩
  rw [List.take_of_length_le (by omega)]
  exact ⟨by omega, h2, by omega⟩
theorem right_b {s c : Nat} {t : List UInt8} : (nf 4 s c).right t = true ↔ t.length = 2 * s ∧ onlyOf t hexs = true := by
 rw [right_nl (by decide)]
 have e : ptsOf ((4 : Nat) : Int) (c : Int) s = [⟨2 * s, hexs, (rws (c : Int).toNat).h⟩] := rfl
 rw [e]
 unfold rightAll rightAll
 simp only [Bool.and_eq_true, decide_eq_true_eq, beq_iff_eq, List.drop_eq_nil_iff]
 constructor
 ·rintro ⟨h1, h2, h3⟩
  rw [List.take_of_length_le h3] at h2
  exact ⟨by omega, h2⟩
 ·rintro ⟨h1, h2⟩
  rw [List.take_of_length_le (by omega)]
  exact ⟨by omega, h2, by omega⟩
theorem say_nil {d : Nat} {f : Fld} (h : unsaid d f.1 = []) : say d f = f.2 := by
 unfold say Lib.trimPrefix Lib.hasPrefix
 rw [h]
 simp
end Go.Proofs.YtkagijifkpoplaaGreatDoor.Fdd
namespace Go.Proofs.YtkagijifkpoplaaGreatDoor
open Go.RowKit
open Fdd
theorem blk_range {W : World} {g : Nat} {t : TypeId} {cs : Array Value} (h : Blk W g t cs) : W.rangeAt g 0 cs.toList := fun j v hj => by
 rw [Nat.zero_add, h.cell j]
 simpa using hj
theorem gx_iface {P : Program} {a : Act} {o : Oper} {W : World} {t : TypeId} {x : Operand} {v r : Value} (ho : o.op = .makeInterface t x) (hx : a.eval x = v) (h : (Instr.makeInterface t v).run P W = .ok r W) : (execOp a.eval o).run P W = .ok (.value r) W := by
 unfold execOp
 simp only [ho, hx, h, Sem.run_bind, Sem.run_pure, Result.andThen_ok]
theorem mk_fe (v : Value) (W : World) : (Instr.makeInterface 123 v).run Tryz.prog W = .ok (.iface 123 v) W := by kernel_rfl
theorem build_fe (no : Int) (v : Value) (W : World) : (Instr.build 123 #[(0, .int .i64 no), (1, .iface 259 v)]).run Tryz.prog W = .ok (.agg #[.int .i64 no, .iface 259 v]) W := by kernel_rfl
theorem msize_row : (Tryz.prog.info? 147).map (·.size) = some 3 := by kernel_rfl
theorem mzero_row (w : World) : (zeroValue 147).run Tryz.prog w = .ok (.agg #[.int .i64 0, .int .i64 0, .int .i64 0]) w := by kernel_rfl
theorem build_form0 (W : World) : (Instr.build 105 #[]).run Tryz.prog W = .ok (.agg #[.int .i64 0, .int .i64 0, .int .i64 0]) W := by kernel_rfl
def rowA (r : Int × Int × Int) : Array Value := #[.int .i64 r.1, .int .i64 r.2.1, .int .i64 r.2.2]
theorem rowA_one (r : Int × Int × Int) : ∀ v ∈ (rowA r).toList, v.oneCell' = true := fun v hv => by
 unfold rowA at hv
 simp only [List.mem_cons, List.not_mem_nil, or_false] at hv
 rcases hv with rfl | rfl | rfl <;> rfl
theorem fm3_one (a b c : Int) : ∀ v ∈ (#[.int .i64 a, .int .i64 b, .int .i64 c] : Array Value).toList, v.oneCell' = true := rowA_one (a, b, c)
theorem rows_range {W : World} {b off : Nat} (h : ∀ i v, rowCells[i]? = some v → W.cell? ⟨b, off + i, none⟩ = some v) {j : Nat} {r : Int × Int × Int} (hr : mrows[j]? = some r) : W.rangeAt b (off + j * 3) (rowA r).toList := by
 have key : ∀ j : Fin 17, ∀ i : Fin 3, rowCells[j.val * 3 + i.val]? = ((mrows[j.val]?).map rowA).bind fun a => a[i.val]? := by
  intro j i
  have hj : j.val < 17 := j.isLt
  have hi : i.val < 3 := i.isLt
  obtain ⟨j, _⟩ := j
  obtain ⟨i, _⟩ := i
  simp only
  have hjj : j = 0 ∨ j = 1 ∨ j = 2 ∨ j = 3 ∨ j = 4 ∨ j = 5 ∨ j = 6 ∨ j = 7 ∨ j = 8 ∨ j = 9 ∨ j = 10 ∨ j = 11 ∨ j = 12 ∨ j = 13 ∨ j = 14 ∨ j = 15 ∨ j = 16 := by omega
  have hii : i = 0 ∨ i = 1 ∨ i = 2 := by omega
  rcases hii with rfl | rfl | rfl <;> rcases hjj with rfl | rfl | rfl | rfl | rfl | rfl | rfl | rfl | rfl | rfl | rfl | rfl | rfl | rfl | rfl | rfl | rfl <;> rfl
 have hj : j < 17 := (List.getElem?_eq_some_iff.1 hr).1
 intro i v hv
 rw [Nat.add_assoc]
 have hi : i < 3 := by
  have := (List.getElem?_eq_some_iff.1 hv).1
  simpa [rowA] using this
 refine h _ v ?_
 have := key ⟨j, hj⟩ ⟨i, hi⟩
 simp only [hr, Option.map_some, Option.bind_some] at this
 rw [this]
 simpa using hv
theorem unsaid_walk (d : Nat) (no : Int) (w : World) :
 Calls Tryz.prog 67 #[tongV d, .int .i64 no] w fun e w' => e = .returned (strV (unsaid d no)) ∧ Turn nowhere w w' := by
 by_cases h4 : no = 4
 ·subst h4
  unfold tongV tongA
  generalize unsaid d 4 = u
  generalize ver d = v
  go_enter Tryz.func67, Tryz.ntmps67
  go_wp2
  go_ret
  exact ⟨rfl, (Turn.refl nowhere w).alloc _⟩
 ·have hu : unsaid d no = [] := by
   unfold unsaid
   rw [if_neg (fun h => h4 h.2)]
  rw [hu]
  clear hu
  unfold tongV tongA
  generalize unsaid d 4 = u
  generalize ver d = v
  go_enter Tryz.func67, Tryz.ntmps67
  go_wp2
  go_ret
  exact ⟨rfl, (Turn.refl nowhere w).alloc _⟩
def formR (s : Sents) (d : Nat) (no : Int) : Value := match mform d no with
 | some m => .tuple #[fmV m, .nilIface]
 | none => .tuple #[.agg #[.int .i64 0, .int .i64 0, .int .i64 0], .iface 123 (.agg #[.int .i64 no, errS s.field])]
theorem mform_at {d : Nat} {no : Int} {j : Nat} {r : Int × Int × Int} (hr : mrows[j]? = some r) (hm : mfind no (mrows.drop j) = mfind no mrows) : (r.1 = no → mform d no = some ⟨r.2.1, r.2.2 - (unsaid d no).length, (d : Int)⟩) ∧ (r.1 ≠ no → mfind no (mrows.drop (j + 1)) = mfind no mrows) := by
 obtain ⟨hj, hrj⟩ := List.getElem?_eq_some_iff.1 hr
 have hd : mrows.drop j = r :: mrows.drop (j + 1) := by rw [← hrj]; exact List.drop_eq_getElem_cons hj
 have hf : mfind no (r :: mrows.drop (j + 1)) = if r.1 = no then some r.2 else mfind no (mrows.drop (j + 1)) := rfl
 rw [hd, hf] at hm
 refine ⟨fun h => ?_, fun h => ?_⟩
 ·rw [if_pos h] at hm
  unfold mform
  rw [← hm]
  rfl
 ·rw [if_neg h] at hm
  exact hm
theorem form_walk {s : Sents} {w : World} {d : Nat} {no : Int} (ht : Tab w) (hs : Sen s w) :
 Calls Tryz.prog 64 #[tongV d, .int .i64 no] w fun e w' => e = .returned (formR s d no) ∧ Turn nowhere w w' := by
 have hW : ∃ w1 b0 bt, w1 = (w.alloc (.cells (tongA d) 112)).alloc (.cells #[.int .i64 0, .int .i64 0, .int .i64 0] 105) ∧ bt = w.heap.size ∧ b0 = w.heap.size + 1 := ⟨_, _, _, rfl, rfl, rfl⟩
 obtain ⟨w1, b0, bt, hw1, hbt, hb0⟩ := hW
 have hU : Turn nowhere w w1 := by rw [hw1]; exact ((Turn.refl nowhere w).alloc _).alloc _
 have hBt : Blk w1 bt 112 (tongA d) := by rw [hw1, hbt]; exact (Blk.new w _ _).alloc _
 have hB0 : Blk w1 b0 105 #[.int .i64 0, .int .i64 0, .int .i64 0] := by
  rw [hw1, hb0]
  have := Blk.new (w.alloc (.cells (tongA d) 112)) 105 #[.int .i64 0, .int .i64 0, .int .i64 0]
  simpa using this
 have HLG := zH (World.block_lt_of_cell? _ _ hs.field.1)
 have hT1 := ht.turn hU
 have hS1 := hs.turn hU
 obtain ⟨bR, oR, cR, hg6, hcells⟩ := hT1.rows
 have HG := zH hbt
 have HG0 := zH hb0
 have HU := zH hU
 have HBT := zH hBt
 have HB0 := zH hB0
 have HS := zH hS1
 have HC := zH hcells
 have HW := zH hw1
 clear hU hBt hB0 hT1 hS1 hcells ht hs hw1 hbt hb0
 go_enter Tryz.func64, Tryz.ntmps64
 go_upto_region 1 with fail
 have e0 := HG0.out
 have e1 := HG.out
 have e2 := HW.out
 change Code.wp _ _ _ _ ((w.alloc (.cells (tongA d) 112)).alloc (.cells #[.int .i64 0, .int .i64 0, .int .i64 0] 105))
 rw [← e2, ← e0, ← e1]
 clear e0 e1 e2 HW
 go_wp2_with fail
 go_loopg [10] 17 (fun gk jv wr => ∃ j : Nat, j + gk = 17 ∧ jv = .int .i64 (j : Int) ∧ mfind no (mrows.drop j) = mfind no mrows ∧ Turn nowhere w1 wr)
 case atStart => exact ⟨0, by omega, rfl, rfl, Turn.refl _ _⟩
 obtain ⟨j, hjl, rfl, hfind, htr⟩ := hrel
 have HJL := zH hjl
 have HF := zH hfind
 have HTR := zH htr
 clear hjl hfind htr hg6
 by_cases hlt : j < 17
 ·have y1 : (j : Int) < 17 := by omega
  have HLT := zH hlt
  obtain ⟨r, hr⟩ : ∃ r, mrows[j]? = some r := ⟨_, List.getElem?_eq_getElem (show j < mrows.length from hlt)⟩
  have HM := zH (mform_at (d := d) (no := no) hr HF.out)
  have HRR := zH (rows_range (fun i v h => (HTR.out.cell (World.block_lt_of_cell? _ _ (HC.out i v h)) (fun e => e)).trans (HC.out i v h)) hr)
  have HBD := zH (show -9223372036854775808 ≤ r.2.2 - ((unsaid d no).length : Int) ∧ r.2.2 - ((unsaid d no).length : Int) ≤ 9223372036854775807 from by
   have h1 := (mrows_all r (List.mem_of_getElem? hr)).2.1
   rcases unsaid_len d no with h | ⟨h, _⟩ <;> rw [h] <;> simp only [List.length_nil, List.length_cons] <;> omega)
  clear hlt hr
  go_upto_region 3 with fail
  refine wp_region_lit ?_
  refine wS (.pointer (some ⟨bR, oR + j * 3, none⟩)) (gx_iaddr (i := j) (sz := 3) rfl rfl rfl Tryz.underlying145 (by kernel_rfl) HLT.out (by omega)) ?_;simp only [zz];refine wS (.agg (rowA r)) (gx_loads rfl rfl HRR.out Tryz.underlying147 rfl (by rw [msize_row]; rfl)) ?_;simp only [zz]
  refine wR (v := .pointer (some ⟨wr.heap.size, 0, none⟩)) (w' := wr.alloc (.cells #[.int .i64 0, .int .i64 0, .int .i64 0] 147)) rfl (gx_alloc rfl (mzero_row _)) ?_
  simp only [zz]
  have hb7 := Blk.new wr 147 #[.int .i64 0, .int .i64 0, .int .i64 0]
  have hu7 := HTR.out.alloc (.cells #[.int .i64 0, .int .i64 0, .int .i64 0] 147)
  obtain ⟨g7, hg7⟩ : ∃ g7, g7 = wr.heap.size := ⟨_, rfl⟩
  rw [← hg7] at hb7 ⊢
  have HG7 := zH (show w1.heap.size ≤ g7 from by rw [hg7]; exact HTR.out.size)
  clear hg7
  generalize wr.alloc (.cells #[.int .i64 0, .int .i64 0, .int .i64 0] 147) = w2 at *
  refine wpList_store_row rfl 147 (.tmp 7) (.tmp 13) rfl (rowA r) hb7 rfl rfl rfl (by rw [msize_row]; rfl) (rowA_one r) ?_
  intro w3 hb3 hu3
  have HB7 := zH hb3
  have HU3 := zH (hu7.trans hu3 (fun k hk e => by
   have := HG7.out
   have e : k = g7 := e
   omega))
  clear hb7 hu7 hb3 hu3 HRR
  simp only [zz]
  have c0 : w3.cell? ⟨g7, 0, none⟩ = some (.int .i64 r.1) := HB7.out.cell 0
  go_upto_region 4 with fail
  refine wp_region_lit ?_
  refine wS (.pointer (some ⟨g7, 0, none⟩)) (xF 0 0) ?_;simp only [zz];refine wS (.int .i64 r.1) (exec_load1 rfl rfl (by kernel_rfl) c0) ?_;simp only [zz];refine wM (.int .i64 no) ?_;simp only [zz]
  by_cases hrn : r.1 = no
  ·have HRN := zH (HM.out.1 hrn)
   refine wS (.bool true) (ix_eql rfl rfl rfl (decide_eq_true hrn)) ?_;simp only [zz]
   clear hrn c0 HM
   have HBT3 := zH (HBT.out.turn HU3.out (fun e => e))
   have HB03 := zH (HB0.out.turn HU3.out (fun e => e))
   have hne7 : g7 ≠ b0 := by
    have := HB0.out.lt
    have := HG7.out
    omega
   have hnet : bt ≠ b0 := by
    have := HG.out
    have := HG0.out
    omega
   have HN7 := zH hne7
   have HNT := zH hnet
   clear hne7 hnet
   go_upto_region 5 with fail
   have hS0 : Blk w3.drew g7 147 (rowA r) ∧ Blk w3.drew bt 112 (tongA d) := ⟨HB7.out, HBT3.out⟩
   have HU3d : Hid (Turn nowhere w1 w3.drew) := zH HU3.out.drew
   have HB0d : Hid (Blk w3.drew b0 105 #[.int .i64 0, .int .i64 0, .int .i64 0]) := zH HB03.out.drew
   clear HB7 HBT3 HU3 HB03
   refine wp_region_alw (fun W => Blk W g7 147 (rowA r) ∧ Blk W bt 112 (tongA d)) (by kernel_rfl) ?_
   generalize w3.drew = w4 at *
   refine aU 0 (.pointer (some ⟨g7, 1, none⟩)) rfl (fun W hW => xF 0 1) hS0 ?_;simp only [zz];refine aU 1 (.int .i64 r.2.1) rfl (fun W hW => xL (hW.1.cell 1)) hS0 ?_;simp only [zz];refine aU 2 (.pointer (some ⟨g7, 2, none⟩)) rfl (fun W hW => xF 0 2) hS0 ?_;simp only [zz];refine aU 3 (.int .i64 r.2.2) rfl (fun W hW => xL (hW.1.cell 2)) hS0 ?_;simp only [zz];refine aU 4 (tongV d) rfl (fun W hW => gx_loads rfl rfl (blk_range hW.2) Tryz.underlying112 rfl (by rw [size_tongue]; rfl)) hS0 ?_;simp only [zz];refine aM 5 (.int .i64 no) hS0 ?_;simp only [zz];refine aU 9 (.pointer (some ⟨bt, 0, none⟩)) rfl (fun W hW => xF 0 0) hS0 ?_;simp only [zz];refine aU 10 (.int .i64 (d : Int)) rfl (fun W hW => xL (hW.2.cell 0)) hS0 ?_;simp only [zz]
   refine alw_step (i := 6) (by kernel_rfl) rfl rfl ?_
   intro K1 HK1
   go_wp2_with fail
   refine (unsaid_walk d no _).mono ?_
   rintro e w5 ⟨rfl, ht5⟩
   have hS1 : Blk w5 g7 147 (rowA r) ∧ Blk w5 bt 112 (tongA d) := ⟨hS0.1.turn ht5 (fun e => e), hS0.2.turn ht5 (fun e => e)⟩
   refine HK1.out _ _ ⟨hS1, ?_⟩
   have HU5 := zH (HU3d.out.next ht5)
   have HB05 := zH (HB0d.out.turn ht5 (fun e => e))
   clear HK1 hS0 HU3d HB0d ht5
   try simp only [zz]
   refine aU 7 (.int .i64 ((unsaid d no).length : Int)) rfl (fun W hW => exec_slen rfl rfl) hS1 ?_;simp only [zz];refine aU 8 (.int .i64 (r.2.2 - ((unsaid d no).length : Int))) rfl (fun W hW => ix_sub rfl rfl rfl rfl HBD.out) hS1 ?_;simp only [zz];refine aU 11 (.agg #[.int .i64 r.2.1, .int .i64 (r.2.2 - ((unsaid d no).length : Int)), .int .i64 (d : Int)]) rfl (fun W hW => exec_build3 rfl rfl rfl rfl (build_any _ _ _ _)) hS1 ?_;simp only [zz]
   refine alw_step (i := 12) (by kernel_rfl) rfl rfl ?_
   intro K2 HK2
   refine wp_store_rowU 105 (.tmp 4) (.tmp 29) rfl #[.int .i64 r.2.1, .int .i64 (r.2.2 - ((unsaid d no).length : Int)), .int .i64 (d : Int)] HB05.out rfl rfl rfl (by rw [size_form]; rfl) (fm3_one _ _ _) ?_
   intro w6 hB6 hU6
   have hS2 : Blk w6 g7 147 (rowA r) ∧ Blk w6 bt 112 (tongA d) := ⟨hS1.1.turn hU6 HN7.out, hS1.2.turn hU6 HNT.out⟩
   refine HK2.out _ _ ⟨hS2, ?_⟩
   have HB6 := zH hB6
   have HU6 := zH ((HU.out.next HU5.out).trans hU6 (fun k hk e => by
    have := HG0.out
    have e : k = b0 := e
    omega))
   clear HK2 hS1 HU5 HB05 hB6 hU6
   try simp only [zz]
   refine aU 13 .nilIface rfl (fun W hW => gx_assign rfl rfl) hS2 ?_;simp only [zz]
   refine alw_done rfl ?_
   clear hS2
   refine NoPanic.normal ?_
   go_wp2_with fail
   refine bodyPost_ret (v := .tuple #[.agg #[.int .i64 r.2.1, .int .i64 (r.2.2 - ((unsaid d no).length : Int)), .int .i64 (d : Int)], .nilIface]) (ret_cell2 rfl _ _ b0 _ _ _ rfl rfl HB6.out Tryz.underlying105 rfl (by rw [size_form]; rfl)) rfl ?_
   refine ⟨?_, HU6.out⟩
   unfold formR
   rw [HRN.out]
   rfl
  ·have HRN := zH (HM.out.2 hrn)
   refine wS (.bool false) (ix_eql rfl rfl rfl (decide_eq_false hrn)) ?_;simp only [zz]
   clear hrn c0 HM
   go_wp2_with fail
   go_roundg (gk - 1)
   case measure => have := HJL.out; have := HLT.out; omega
   case rel => exact ⟨j + 1, by have := HJL.out; have := HLT.out; omega, by go_num, HRN.out, HU3.out⟩
 ·have y1 : ¬ ((j : Int) < 17) := by omega
  have HN := zH (show mform d no = none from by
   have h := HF.out
   have h0 : mrows.drop j = [] := List.drop_eq_nil_iff.2 (show mrows.length ≤ j from by have : mrows.length = 17 := rfl; omega)
   rw [h0] at h
   have h2 : mfind no mrows = none := h.symm
   unfold mform
   rw [h2]
   rfl)
  have HB03 := zH (HB0.out.turn HTR.out (fun e => e))
  have HLT : Hid (7 < b0) := zH (by
   have h := World.block_lt_of_cell? _ _ HS.out.field.1
   have h2 := HB0.out.lt
   have := HG0.out
   have h3 : w.heap.size ≤ w1.heap.size := HU.out.size
   have h4 := HLG.out
   omega)
  clear hlt HF
  go_upto_region 7 with fail
  have hS0 : wr.drew.cell? ⟨7, 0, none⟩ = some (errS s.field) := (HS.out.turn HTR.out).field.1
  have HUd : Hid (Turn nowhere w1 wr.drew) := zH HTR.out.drew
  have HBd : Hid (Blk wr.drew b0 105 #[.int .i64 0, .int .i64 0, .int .i64 0]) := zH HB03.out.drew
  clear HB03 HTR
  refine wp_region_alw (fun W => W.cell? ⟨7, 0, none⟩ = some (errS s.field)) (by kernel_rfl) ?_
  generalize wr.drew = w4 at *
  refine aU 0 (.agg #[.int .i64 0, .int .i64 0, .int .i64 0]) rfl (fun W hW => exec_bld rfl (build_form0 _)) hS0 ?_;simp only [zz];refine aM 1 (.int .i64 no) hS0 ?_;simp only [zz];refine aU 2 (errS s.field) rfl (fun W hW => xL hW) hS0 ?_;simp only [zz];refine aU 3 (.agg #[.int .i64 no, errS s.field]) rfl (fun W hW => gx_build2 rfl rfl rfl (build_fe _ _ _)) hS0 ?_;simp only [zz];refine aU 4 (.iface 123 (.agg #[.int .i64 no, errS s.field])) rfl (fun W hW => gx_iface rfl rfl (mk_fe _ _)) hS0 ?_;simp only [zz]
  refine alw_step (i := 5) (by kernel_rfl) rfl rfl ?_
  intro K2 HK2
  refine wp_store_rowU 105 (.tmp 4) (.tmp 31) rfl #[.int .i64 0, .int .i64 0, .int .i64 0] HBd.out rfl rfl rfl (by rw [size_form]; rfl) (fm3_one _ _ _) ?_
  intro w6 hB6 hU6
  have hS2 : w6.cell? ⟨7, 0, none⟩ = some (errS s.field) := (hU6.cell (World.block_lt_of_cell? _ _ hS0) (fun e => by
   have e : 7 = b0 := e
   have := HLT.out
   omega)).trans hS0
  refine HK2.out _ _ ⟨hS2, ?_⟩
  have HB6 := zH hB6
  have HU6 := zH ((HU.out.next HUd.out).trans hU6 (fun k hk e => by
   have := HG0.out
   have e : k = b0 := e
   omega))
  clear HK2 hS0 HUd HBd hB6 hU6
  try simp only [zz]
  refine aU 6 (.iface 123 (.agg #[.int .i64 no, errS s.field])) rfl (fun W hW => gx_assign rfl rfl) hS2 ?_;simp only [zz]
  refine alw_done rfl ?_
  clear hS2
  refine NoPanic.normal ?_
  go_wp2_with fail
  refine bodyPost_ret (v := .tuple #[.agg #[.int .i64 0, .int .i64 0, .int .i64 0], .iface 123 (.agg #[.int .i64 no, errS s.field])]) (ret_cell2 rfl _ _ b0 _ _ _ rfl rfl HB6.out Tryz.underlying105 rfl (by rw [size_form]; rfl)) rfl ?_
  refine ⟨?_, HU6.out⟩
  unfold formR
  rw [HN.out]
theorem bs_still {w w' : World} {A : Option Addr} {n : Nat} {bs : List UInt8} (h : Bs w A n bs) (ht : Turn nowhere w w') : Bs w' A n bs := bs_below h (ht.below (Nat.le_refl _) (fun _ _ e=>e))
def feV (no : Int) (a : Addr) : Value := .iface 123 (.agg #[.int .i64 no, errS a])
def wrapV (s : Sents) (no e : Int) : Value := if e = 41 then feV no s.text else if e = 42 then feV no s.bytes else if e = 43 then feV no s.short else .nilIface
theorem wrap_walk {s : Sents} {w : World} {no e : Int} (hs : Sen s w) :
 Calls Tryz.prog 83 #[.int .i64 no, .int .i64 e] w fun r w' => r = .returned (wrapV s no e) ∧ w' = w := by
 have g1 : w.cell? ⟨10, 0, none⟩ = some (errS s.text) := hs.text.1
 have g2 : w.cell? ⟨11, 0, none⟩ = some (errS s.bytes) := hs.bytes.1
 have g3 : w.cell? ⟨12, 0, none⟩ = some (errS s.short) := hs.short.1
 have b1 := build_fe no (.pointer (some s.text)) w
 have b2 := build_fe no (.pointer (some s.bytes)) w
 have b3 := build_fe no (.pointer (some s.short)) w
 unfold errS at g1 g2 g3
 clear hs
 by_cases h1 : e = 41
 ·subst h1
  have hv : wrapV s no 41 = feV no s.text := rfl
  rw [hv]
  clear hv g2 g3 b2 b3
  go_enter Tryz.func83, Tryz.ntmps83
  go_wp2
  go_ret
  exact ⟨rfl, rfl⟩
 ·by_cases h2 : e = 42
  ·subst h2
   have hv : wrapV s no 42 = feV no s.bytes := rfl
   rw [hv]
   clear hv g1 g3 b1 b3
   go_enter Tryz.func83, Tryz.ntmps83
   go_wp2
   go_ret
   exact ⟨rfl, rfl⟩
  ·by_cases h3 : e = 43
   ·subst h3
    have hv : wrapV s no 43 = feV no s.short := rfl
    rw [hv]
    clear hv g1 g2 b1 b2
    go_enter Tryz.func83, Tryz.ntmps83
    go_wp2
    go_ret
    exact ⟨rfl, rfl⟩
   ·have hv : wrapV s no e = .nilIface := by
     unfold wrapV
     rw [if_neg h1, if_neg h2, if_neg h3]
    rw [hv]
    clear hv g1 g2 g3 b1 b2 b3
    go_enter Tryz.func83, Tryz.ntmps83
    go_wp2
    go_ret
    exact ⟨rfl, rfl⟩
def MPut (s : Sents) (no : Int) (f : Fm) (t b : List UInt8) (w : World) (e : Ending) (w' : World) : Prop := ∃ A n c, e = .returned (.tuple #[.slice A n c, wrapV s no (f.check t)]) ∧ Own w' w.heap.size 5 (.slice A n c) (putR f t b) ∧ Turn nowhere w w'
theorem mput_walk {s : Sents} {w : World} {no : Int} {f : Fm} {t b : List UInt8} {A : Option Addr} {n cap : Nat} (hs : Sen s w) (hr : RowsT w) (hb : Bs w A n b) (hn : n ≤ 140737488351232) :
 Calls Tryz.prog 65 #[.slice A n cap, .int .i64 no, fmV f, strV t] w (MPut s no f t b w) := by
 have hu1 := (Turn.refl nowhere w).alloc (.cells #[.int .i64 f.kind, .int .i64 f.size, .int .i64 f.code] 105)
 have hb1 := Blk.new w 105 #[.int .i64 f.kind, .int .i64 f.size, .int .i64 f.code]
 obtain ⟨b0, hb0⟩ : ∃ b0, b0 = w.heap.size := ⟨_, rfl⟩
 obtain ⟨w1, hw1⟩ : ∃ w1, w1 = w.alloc (.cells #[.int .i64 f.kind, .int .i64 f.size, .int .i64 f.code] 105) := ⟨_, rfl⟩
 rw [← hw1] at hu1 hb1
 rw [← hb0] at hb1
 have HP := zH (put_all (f := f) (cap := cap) (t := t) (hr.turn hu1) (bs_still hb hu1) hn)
 have HS := zH (hs.turn hu1)
 have HU1 := zH hu1
 have HB1 := zH hb1
 have HW1 := zH hw1
 have HB0 := zH hb0
 clear hs hr hb hu1 hb1 hw1 hb0
 have hfv : fmV f = .agg #[.int .i64 f.kind, .int .i64 f.size, .int .i64 f.code] := rfl
 rw [hfv] at HP ⊢
 clear hfv
 go_enter Tryz.func65, Tryz.ntmps65
 go_upto_region 1 with fail
 have e1 := HW1.out
 have e2 := HB0.out
 rw [← e1, ← e2]
 clear e1 e2 HW1 HB0
 have c0 : w1.cell? ⟨b0, 0, none⟩ = some (.int .i64 f.kind) := HB1.out.cell 0
 have c1 : w1.cell? ⟨b0, 1, none⟩ = some (.int .i64 f.size) := HB1.out.cell 1
 have c2 : w1.cell? ⟨b0, 2, none⟩ = some (.int .i64 f.code) := HB1.out.cell 2
 go_upto_region 2 with (go_at_call 88; refine HP.out.mono ?_; rintro e w2 ⟨A2, n2, cc2, rfl, ho2, ht2⟩)
 have HO2 := zH ho2
 have HT2 := zH ht2
 clear ho2 ht2 c0 c1 c2 HB1 HP
 go_wp2_with (go_at_call 83; refine (wrap_walk (HS.out.turn HT2.out)).mono ?_; rintro e w3 ⟨rfl, rfl⟩)
 go_ret2
 exact ⟨_, _, _, rfl, own_base HO2.out HU1.out.size, HU1.out.next HT2.out⟩
theorem isType_walk {w : World} {n : Int} : Calls Tryz.prog 81 #[.int .i64 n] w fun e w' => e = .returned (.bool (mtypes.contains n)) ∧ w' = w := by
 by_cases h : n ∈ mtypes
 ·have hv : mtypes.contains n = true := by simpa using h
  rw [hv]
  clear hv
  unfold mtypes at h
  simp only [List.mem_cons, List.not_mem_nil, or_false] at h
  rcases h with rfl | rfl | rfl | rfl | rfl | rfl | rfl | rfl | rfl | rfl | rfl | rfl | rfl | rfl | rfl | rfl
  all_goals
   go_enter Tryz.func81, Tryz.ntmps81
   go_wp2
   go_ret
   exact ⟨rfl, rfl⟩
 ·have hv : mtypes.contains n = false := by simpa using h
  rw [hv]
  clear hv
  unfold mtypes at h
  simp only [List.mem_cons, List.not_mem_nil, or_false, not_or] at h
  obtain ⟨h1, h2, h3, h4, h5, h6, h7, h8, h9, h10, h11, h12, h13, h14, h15, h16⟩ := h
  go_enter Tryz.func81, Tryz.ntmps81
  go_wp2
  go_ret
  exact ⟨rfl, rfl⟩
section
variable {a : Act} {o : Oper} {W : World} {x y : Operand} {t u : TypeId}
theorem ux_and {n m r : Nat} (ho : o.op = .binOp .and t x y u) (hx : a.eval x = .int .u64 (n : Int)) (hy : a.eval y = .int .u64 (m : Int)) (hn : n < 2 ^ 64) (hm : m < 2 ^ 64) (hr : n &&& m = r) : (execOp a.eval o).run Tryz.prog W = .ok (.value (.int .u64 (r : Int))) W := by
 unfold execOp
 simp only [ho, hx, hy]
 go_simp
 rw [u64_and_nat n m (by omega) (by omega), hr]
theorem ux_or {n m r : Nat} (ho : o.op = .binOp .or t x y u) (hx : a.eval x = .int .u64 (n : Int)) (hy : a.eval y = .int .u64 (m : Int)) (hn : n < 2 ^ 64) (hm : m < 2 ^ 64) (hr : n ||| m = r) : (execOp a.eval o).run Tryz.prog W = .ok (.value (.int .u64 (r : Int))) W := by
 unfold execOp
 simp only [ho, hx, hy]
 go_simp
 rw [u64_or_nat n m (by omega) (by omega), hr]
theorem ux_shr4 {n : Nat} (ho : o.op = .binOp .shr 128 x y u) (hx : a.eval x = .int .u64 (n : Int)) (hy : a.eval y = .int .u64 4) (hn : n < 2 ^ 64) : (execOp a.eval o).run Tryz.prog W = .ok (.value (.int .u64 ((n / 16 : Nat) : Int))) W := by
 unfold execOp
 simp only [ho, hx, hy]
 go_simp
theorem ux_shl1 {m : Nat} (ho : o.op = .binOp .shl 128 (.const (.int .u64 1)) y u) (hy : a.eval y = .int .i64 (m : Int)) (hm : m < 64) : (execOp a.eval o).run Tryz.prog W = .ok (.value (.int .u64 ((2 ^ m : Nat) : Int))) W := by
 have h2 : (2 : Int) ^ m < 2 ^ 64 := by
  have := Nat.pow_lt_pow_right (a := 2) (by decide) hm
  have h3 : ((2 ^ m : Nat) : Int) < ((2 ^ 64 : Nat) : Int) := Int.ofNat_lt.2 this
  simpa using h3
 have h0 : (0 : Int) ≤ 2 ^ m := by
  exact Int.pow_nonneg (by decide)
 unfold execOp
 simp only [ho, hy]
 go_simp
 rw [IntKind.wrap_u64]
 exact Int.emod_eq_of_lt h0 h2
end
theorem hexk_cons : ∀ (k n : Nat), hexk (k + 1) n = hexs.getD (n / 16 ^ k % 16) 0 :: hexk k n
 | 0, n => by simp [hexk]
 | k + 1, n => by
   rw [hexk, hexk_cons k (n / 16), Nat.div_div_eq_div_mul, Nat.mul_comm 16, ← Nat.pow_succ]
   rfl
def ZerT (W : World) : Prop := W.cell? ⟨19, 15, none⟩ = some (.int .u8 4)
theorem ZerT.turn {W W' : World} (h : ZerT W) (ht : Turn nowhere W W') : ZerT W' := (ht.cell (World.block_lt_of_cell? _ _ h) (fun e => e)).trans h
theorem zeros64 {w : World} (hz : ZerT w) : Calls Tryz.prog 175 #[.int .u64 16] w fun e w' => e = .returned (.int .i64 4) ∧ w' = w := by
 unfold ZerT at hz
 go_enter Tryz.func175, Tryz.ntmps175
 go_upto_region 3 with fail
 refine wp_region_lit ?_
 refine wM (.int .u64 16) ?_;simp only [zz];refine wM (.int .u64 16) ?_;simp only [zz]
 refine wR (v := .int .u64 18446744073709551600) (w' := w) rfl (by kernel_rfl) ?_
 simp only [zz]
 refine wR (v := .int .u64 16) (w' := w) rfl (by kernel_rfl) ?_
 simp only [zz]
 refine wR (v := .int .u64 4573923408821661840) (w' := w) rfl (by kernel_rfl) ?_
 simp only [zz]
 refine wR (v := .int .u64 15) (w' := w) rfl (by kernel_rfl) ?_
 simp only [zz];refine wS (.pointer (some ⟨19, 15, none⟩)) (gx_aaddr (i := 15) (off := 0) (sz := 1) rfl rfl rfl Tryz.underlying89 (by kernel_rfl) (by omega) (by omega)) ?_;simp only [zz];refine wS (.int .u8 4) (xL hz) ?_;simp only [zz]
 refine wR (v := .int .i64 4) (w' := w) rfl (by kernel_rfl) ?_
 simp only [zz];refine wA (.int .i64 4) ?_;simp only [zz]
 clear hz
 go_wp2_with fail
 go_ret
 exact ⟨rfl, rfl⟩
theorem zeros_walk {w : World} (hz : ZerT w) : Calls Tryz.prog 170 #[.int .u64 16] w fun e w' => e = .returned (.int .i64 4) ∧ w' = w := by
 have HZ := zH hz
 clear hz
 go_enter Tryz.func170, Tryz.ntmps170
 go_wp2_with (go_at_call 175; refine (zeros64 HZ.out).mono ?_; rintro e w' ⟨rfl, rfl⟩)
 go_ret
 exact ⟨rfl, rfl⟩
theorem two_walk {w : World} : Calls Tryz.prog 169 #[.int .i64 16] w fun e w' => e = .returned (.bool true) ∧ w' = w := by
 go_enter Tryz.func169, Tryz.ntmps169
 go_upto_region 1 with fail
 refine wp_region_lit ?_
 refine wM (.int .i64 16) ?_;simp only [zz];refine wM (.int .i64 16) ?_;simp only [zz]
 refine wR (v := .int .i64 15) (w' := w) rfl (by kernel_rfl) ?_
 simp only [zz]
 refine wR (v := .int .i64 0) (w' := w) rfl (by kernel_rfl) ?_
 simp only [zz]
 refine wR (v := .bool true) (w' := w) rfl (by kernel_rfl) ?_
 simp only [zz];refine wA (.bool true) ?_;simp only [zz]
 go_wp2_with fail
 go_ret
 exact ⟨rfl, rfl⟩
theorem gx_aslice {P : Program} {a : Act} {o : Oper} {W : World} {t e : TypeId} {x y : Operand} {b off n i sz m q : Nat} {k : IntKind} (ho : o.op = .slice t x (some y) none none) (hx : a.eval x = .pointer (some ⟨b, off, none⟩)) (hy : a.eval y = .int k (i : Int))
 (ht : P.underlying t = some (.array n e)) (hs : (P.info? e).map (·.size) = some sz) (hi : i < n) (hm : off + i * sz = m) (hq : n - i = q) : (execOp a.eval o).run P W = .ok (.value (.slice (some ⟨b, m, none⟩) q q)) W := by
 obtain ⟨j, hj, hjs⟩ := Option.map_eq_some_iff.1 hs
 subst hm
 subst hq
 unfold execOp
 have h1 : (i : Int) ≤ (n : Int) := by omega
 have h2 : ¬ (n = i) := by omega
 simp [ho, hx, hy, Instr.sliceAt, Instr.sliceBounds, Instr.sliceBound, run_underlying ht, asIntOf, sizeOf, typeInfo, hj, hjs, h1, h2, Nat.le_of_lt hi, add_nat, Result.andThen, Instr.sureAddr]
def d36 : List UInt8 := [48, 49, 50, 51, 52, 53, 54, 55, 56, 57, 97, 98, 99, 100, 101, 102, 103, 104, 105, 106, 107, 108, 109, 110, 111, 112, 113, 114, 115, 116, 117, 118, 119, 120, 121, 122]
theorem d36_hex {v : Nat} (h : v < 16) : d36.getD v 0 = hexs.getD v 0 := by
 have key : ∀ v : Fin 16, d36.getD v.val 0 = hexs.getD v.val 0 := by decide +kernel
 exact key ⟨v, h⟩
theorem zero65 (w : World) : (zeroValue 249).run Tryz.prog w = .ok (.agg (Array.replicate 65 (.int .u8 0))) w := by kernel_rfl
theorem fbits_walk {w : World} {u : Nat} (hu : u < 2 ^ 64) (hz : ZerT w) :
 Calls Tryz.prog 152 #[.slice none 0 0, .int .u64 (u : Int), .int .i64 16, .bool false, .bool false] w fun e w' => (∃ k, 1 ≤ k ∧ k ≤ 16 ∧ u < 16 ^ k ∧ e = .returned (.tuple #[.slice none 0 0, strV (hexk k u)])) ∧ Turn nowhere w w' := by
 have HU := zH hu
 have HZ := zH hz
 clear hu hz
 go_enter Tryz.func152, Tryz.ntmps152
 go_upto_region 3 with fail
 refine wp_region_lit ?_
 refine wR (v := .pointer (some ⟨w.heap.size, 0, none⟩)) (w' := w.alloc (.cells (Array.replicate 65 (.int .u8 0)) 249)) rfl (gx_alloc rfl (zero65 _)) ?_
 simp only [zz]
 have hb0 := Blk.new w 249 (Array.replicate 65 (.int .u8 0))
 have hu0 := (Turn.refl nowhere w).alloc (.cells (Array.replicate 65 (.int .u8 0)) 249)
 obtain ⟨ga, hga⟩ : ∃ ga, ga = w.heap.size := ⟨_, rfl⟩
 rw [← hga] at hb0 ⊢
 have HG := zH hga
 have HB := zH hb0
 have HT := zH hu0
 clear hb0 hu0 hga
 generalize w.alloc (.cells (Array.replicate 65 (.int .u8 0)) 249) = w1 at *
 go_upto_region 8 with (go_at_call 169; refine two_walk.mono ?_; rintro e w2 ⟨rfl, rfl⟩)
 go_wp2_with (go_at_call 170; refine (zeros_walk (HZ.out.turn HT.out)).mono ?_; rintro e w2 ⟨rfl, rfl⟩)
 have HU0 := zH (show u < 16 ^ 16 from by have := HU.out; omega)
 go_loopg [1, 13] 16 (fun gk uv iv wr => ∃ (k : Nat) (C : Array Value), k + gk = 16 ∧ k ≤ 15 ∧ uv = .int .u64 ((u / 16 ^ k : Nat) : Int) ∧ iv = .int .i64 ((65 - k : Nat) : Int) ∧ Blk wr ga 249 C ∧ C.size = 65 ∧ (∀ i x, (hexk k u)[i]? = some x → C[65 - k + i]? = some (.int .u8 (x.toNat : Int))) ∧ Turn nowhere w wr)
 case atStart => exact ⟨0, _, by omega, by omega, by simp, rfl, HB.out, by simp, fun i x h => by simp [hexk] at h, HT.out⟩
 obtain ⟨k, C, hk, hk15, rfl, rfl, hbC, hC, hcells, htr⟩ := hrel
 obtain ⟨v, hv⟩ : ∃ v, v = u / 16 ^ k := ⟨_, rfl⟩
 rw [← hv]
 have hvl : v < 2 ^ 64 := by
  have := HU.out
  have : u / 16 ^ k ≤ u := Nat.div_le_self _ _
  omega
 have HK := zH hk
 have HK15 := zH hk15
 have HV := zH hv
 have HVL := zH hvl
 have HBC := zH hbC
 have HC := zH hC
 have HCE := zH hcells
 have HTR := zH htr
 clear hk hk15 hv hvl hbC hC hcells htr HB HT
 by_cases hge : 16 ≤ v
 ·have y1 : (16 : Int) ≤ (v : Int) := by omega
  have hk14 : k ≤ 14 := by
   apply Nat.le_of_not_lt
   intro h
   have h15 : k = 15 := by have := HK15.out; omega
   have h2 := HV.out
   rw [h15] at h2
   have h3 := HU0.out
   have h4 : u / 16 ^ 15 < 16 := Nat.div_lt_of_lt_mul (by rw [← Nat.pow_succ]; exact h3)
   omega
  have HK14 := zH hk14
  clear hge hk14
  go_upto_region 12 with fail
  refine wp_region_lit ?_
  refine wM (.int .i64 ((65 - k : Nat) : Int)) ?_;simp only [zz];refine wS (.int .i64 ((64 - k : Nat) : Int)) (ix_sub rfl rfl rfl (by have := HK14.out; omega) (by have := HK14.out; omega)) ?_;simp only [zz];refine wA (.int .i64 ((64 - k : Nat) : Int)) ?_;simp only [zz]
  go_upto_region 13 with fail
  refine wp_region_lit ?_
  refine wM (.int .i64 ((64 - k : Nat) : Int)) ?_;simp only [zz];refine wM (.int .u64 (v : Int)) ?_;simp only [zz];refine wM (.int .u64 15) ?_;simp only [zz];refine wS (.int .u64 ((v % 16 : Nat) : Int)) (ux_and (m := 15) rfl rfl rfl HVL.out (by decide) (Nat.and_two_pow_sub_one_eq_mod v 4)) ?_;simp only [zz];refine wS (.int .u8 ((d36.getD (v % 16) 0).toNat : Int)) (exec_sidx (l := d36) rfl rfl rfl (Nat.lt_of_lt_of_le (Nat.mod_lt v (by decide)) (by decide))) ?_;simp only [zz];refine wS (.pointer (some ⟨ga, 64 - k, none⟩)) (gx_aaddr (i := 64 - k) (off := 0) (sz := 1) rfl rfl rfl Tryz.underlying249 (by kernel_rfl) (by omega) (by omega)) ?_;simp only [zz]
  refine wpList_store1 (g := ga) (i := 64 - k) (v := .int .u8 ((d36.getD (v % 16) 0).toNat : Int)) rfl 5 (.tmp 54) (.tmp 53) rfl HBC.out rfl rfl (by have := HC.out; omega) (by rfl) (by rfl) (by kernel_rfl) ?_
  intro hb9 ht9
  simp only [zz]
  have HB9 := zH hb9
  have HT9 := zH (HTR.out.trans ht9 (fun a hk e => by
   have := HG.out
   have e : a = ga := e
   omega))
  clear hb9 ht9
  generalize World.setCell wr ⟨ga, 64 - k, none⟩ _ = w9 at *
  go_upto_region 14 with fail
  refine wp_region_lit ?_
  refine wM (.int .u64 (v : Int)) ?_;simp only [zz];refine wM (.int .u64 4) ?_;simp only [zz];refine wS (.int .u64 ((v / 16 : Nat) : Int)) (ux_shr4 rfl rfl rfl HVL.out) ?_;simp only [zz];refine wA (.int .u64 ((v / 16 : Nat) : Int)) ?_;simp only [zz]
  go_wp2_with fail
  go_roundg (gk - 1)
  case measure => have := HK.out; have := HK15.out; omega
  case rel =>
   refine ⟨k + 1, _, by have := HK.out; have := HK15.out; omega, by have := HK14.out; omega, ?_, ?_, HB9.out, by simp; exact HC.out, fun i x hi => ?_, HT9.out⟩
   ·rw [HV.out, Nat.div_div_eq_div_mul, ← Nat.pow_succ]
   ·rw [show 65 - (k + 1) = 64 - k from by omega]
   ·rw [hexk_cons] at hi
    rw [show 65 - (k + 1) + i = 64 - k + i from by omega]
    cases i with
    | zero =>
      simp only [List.getElem?_cons_zero, Option.some.injEq] at hi
      subst hi
      rw [Nat.add_zero, Array.getElem?_setIfInBounds_self_of_lt (by have := HC.out; omega), d36_hex (Nat.mod_lt v (by decide)), HV.out]
    | succ i =>
      simp only [List.getElem?_cons_succ] at hi
      rw [Array.getElem?_setIfInBounds_ne (by omega), show 64 - k + (i + 1) = 65 - k + i from by have := HK14.out; omega]
      exact HCE.out i x hi
 ·have y1 : ¬ ((16 : Int) ≤ (v : Int)) := by omega
  have hlt : v < 16 := by omega
  have HLT := zH hlt
  clear hge hlt
  go_upto_region 15 with fail
  refine wp_region_lit ?_
  refine wM (.int .i64 ((65 - k : Nat) : Int)) ?_;simp only [zz];refine wS (.int .i64 ((64 - k : Nat) : Int)) (ix_sub rfl rfl rfl (by have := HK15.out; omega) (by have := HK15.out; omega)) ?_;simp only [zz];refine wA (.int .i64 ((64 - k : Nat) : Int)) ?_;simp only [zz]
  go_upto_region 16 with fail
  refine wp_region_lit ?_
  refine wM (.int .i64 ((64 - k : Nat) : Int)) ?_;simp only [zz];refine wM (.int .u64 (v : Int)) ?_;simp only [zz];refine wS (.int .u8 ((d36.getD v 0).toNat : Int)) (exec_sidx (l := d36) rfl rfl rfl (Nat.lt_of_lt_of_le HLT.out (by decide))) ?_;simp only [zz];refine wS (.pointer (some ⟨ga, 64 - k, none⟩)) (gx_aaddr (i := 64 - k) (off := 0) (sz := 1) rfl rfl rfl Tryz.underlying249 (by kernel_rfl) (by omega) (by omega)) ?_;simp only [zz]
  refine wpList_store1 (g := ga) (i := 64 - k) (v := .int .u8 ((d36.getD v 0).toNat : Int)) rfl 5 (.tmp 63) (.tmp 62) rfl HBC.out rfl rfl (by have := HC.out; omega) (by rfl) (by rfl) (by kernel_rfl) ?_
  intro hb9 ht9
  simp only [zz]
  have HB9 := zH hb9
  have HT9 := zH (HTR.out.trans ht9 (fun a hk e => by
   have := HG.out
   have e : a = ga := e
   omega))
  clear hb9 ht9
  generalize World.setCell wr ⟨ga, 64 - k, none⟩ _ = w9 at *
  have HUK := zH (show u < 16 ^ (k + 1) from by
   have h1 := HV.out
   have h2 := HLT.out
   rw [Nat.pow_succ]
   rw [h1] at h2
   rw [Nat.mul_comm]
   exact (Nat.div_lt_iff_lt_mul (Nat.pow_pos (by decide))).1 h2)
  have HBS := zH (show Bs w9 (some ⟨ga, 64 - k, none⟩) (k + 1) (hexk (k + 1) u) from by
   refine ⟨hexk_len _ _, by have := HK15.out; unfold maxLen; omega, fun _ => ⟨ga, 64 - k, rfl, fun i hi => ?_⟩⟩
   rw [HB9.out.cell]
   cases i with
   | zero =>
     rw [Nat.add_zero, Array.getElem?_setIfInBounds_self_of_lt (by have := HC.out; omega), hexk_cons, ← HV.out, Nat.mod_eq_of_lt HLT.out, d36_hex HLT.out]
     rfl
   | succ i =>
     rw [Array.getElem?_setIfInBounds_ne (by omega), show 64 - k + (i + 1) = 65 - k + i from by have := HK15.out; omega, hexk_cons]
     have hil : i < (hexk k u).length := by rw [hexk_len]; omega
     rw [HCE.out i _ (List.getElem?_eq_getElem hil)]
     simp [List.getD_eq_getElem?_getD, List.getElem?_eq_getElem hil])
  go_upto_region 30 with fail
  refine wp_region_lit ?_
  refine wM (.int .i64 ((64 - k : Nat) : Int)) ?_;simp only [zz];refine wS (.slice (some ⟨ga, 64 - k, none⟩) (k + 1) (k + 1)) (gx_aslice (i := 64 - k) (off := 0) (sz := 1) rfl rfl rfl Tryz.underlying249 (by kernel_rfl) (by omega) (by omega) (by have := HK15.out; omega)) ?_;simp only [zz];refine wS (strV (hexk (k + 1) u)) (exec_strBs rfl rfl HBS.out) ?_;simp only [zz];refine wA (strV (hexk (k + 1) u)) ?_;simp only [zz]
  go_wp2_with fail
  go_ret2
  exact ⟨⟨k + 1, by omega, by have := HK15.out; omega, HUK.out, rfl⟩, HT9.out⟩
theorem fuint_walk {w : World} {u : Nat} (hu : u < 2 ^ 64) (hz : ZerT w) :
 Calls Tryz.prog 133 #[.int .u64 (u : Int), .int .i64 16] w fun e w' => (∃ k, 1 ≤ k ∧ k ≤ 16 ∧ u < 16 ^ k ∧ e = .returned (strV (hexk k u))) ∧ Turn nowhere w w' := by
 have HIN : Calls Tryz.prog 142 #[.int .u64 (u : Int), .int .i64 16] w fun e w' => (∃ k, 1 ≤ k ∧ k ≤ 16 ∧ u < 16 ^ k ∧ e = .returned (strV (hexk k u))) ∧ Turn nowhere w w' := by
  have HF := zH (fbits_walk hu hz)
  clear hu hz
  go_enter Tryz.func142, Tryz.ntmps142
  go_wp2_with (go_at_call 152; refine HF.out.mono ?_; rintro e w' ⟨⟨k, h1, h2, h3, rfl⟩, ht⟩)
  go_ret
  exact ⟨⟨k, h1, h2, h3, rfl⟩, ht⟩
 have HI := zH HIN
 clear HIN hu hz
 go_enter Tryz.func133, Tryz.ntmps133
 go_wp2_with (go_at_call 142; refine HI.out.mono ?_; rintro e w' ⟨⟨k, h1, h2, h3, rfl⟩, ht⟩)
 go_ret
 exact ⟨⟨k, h1, h2, h3, rfl⟩, ht⟩
end Go.Proofs.YtkagijifkpoplaaGreatDoor
namespace Go.Proofs.YtkagijifkpoplaaGreatDoor.Fdd
theorem fold_or (g : Fld → Nat) (p : Fld → Bool) : ∀ (fs : List Fld) (a j : Nat), (fs.foldl (fun a f => if p f = true then a ||| 2 ^ g f else a) a).testBit j = true ↔ a.testBit j = true ∨ ∃ f ∈ fs, p f = true ∧ g f = j
 | [], a, j => by simp
 | f :: r, a, j => by
   rw [List.foldl_cons, fold_or g p r]
   by_cases hp : p f = true
   ·rw [if_pos hp, Nat.testBit_or, Nat.testBit_two_pow]
    simp only [Bool.or_eq_true, decide_eq_true_eq, List.mem_cons]
    constructor
    ·rintro ((h | h) | ⟨x, h1, h2⟩)
     ·exact .inl h
     ·exact .inr ⟨f, .inl rfl, hp, h⟩
     ·exact .inr ⟨x, .inr h1, h2⟩
    ·rintro (h | ⟨x, rfl | h1, h2, h3⟩)
     ·exact .inl (.inl h)
     ·exact .inl (.inr h3)
     ·exact .inr ⟨x, h1, h2, h3⟩
   ·rw [if_neg hp]
    simp only [List.mem_cons]
    constructor
    ·rintro (h | ⟨x, h1, h2⟩)
     ·exact .inl h
     ·exact .inr ⟨x, .inr h1, h2⟩
    ·rintro (h | ⟨x, rfl | h1, h2, h3⟩)
     ·exact .inl h
     ·exact absurd h2 hp
     ·exact .inr ⟨x, h1, h2, h3⟩
theorem bit_half1 (fs : List Fld) (j : Nat) : (half1 fs).testBit j = true ↔ ∃ f ∈ fs, f.1 ≤ 64 ∧ 64 - f.1.toNat = j := by
 have h := fold_or (fun f => 64 - f.1.toNat) (fun f => decide (f.1 ≤ 64)) fs 0 j
 simp only [decide_eq_true_eq, Nat.zero_testBit, Bool.false_eq_true, false_or] at h
 exact h
theorem half2_eq : ∀ (fs : List Fld) (a : Nat), fs.foldl (fun a f => if f.1 ≤ 64 then a else a ||| 2 ^ (128 - f.1.toNat)) a = fs.foldl (fun a f => if decide (64 < f.1) = true then a ||| 2 ^ (128 - f.1.toNat) else a) a
 | [], _ => rfl
 | f :: r, a => by
   rw [List.foldl_cons, List.foldl_cons, half2_eq r]
   congr 1
   by_cases h : f.1 ≤ 64
   ·rw [if_pos h, if_neg (by simpa using h)]
   ·rw [if_neg h, if_pos (by simp; omega)]
theorem bit_half2 (fs : List Fld) (j : Nat) : (half2 fs).testBit j = true ↔ ∃ f ∈ fs, 64 < f.1 ∧ 128 - f.1.toNat = j := by
 have h := fold_or (fun f => 128 - f.1.toNat) (fun f => decide (64 < f.1)) fs 0 j
 unfold half2
 rw [half2_eq]
 simp only [decide_eq_true_eq, Nat.zero_testBit, Bool.false_eq_true, false_or] at h
 simp only [decide_eq_true_eq]
 exact h
def Nos (fs : List Fld) : Prop := Rise (fs.map (·.1)) ∧ ∀ f ∈ fs, 2 ≤ f.1 ∧ f.1 ≤ 97
theorem half1_lt {fs : List Fld} (h : ∀ f ∈ fs, 2 ≤ f.1 ∧ f.1 ≤ 97) : half1 fs < 2 ^ 63 := by
 refine Nat.lt_pow_two_of_testBit _ fun i hi => ?_
 cases hb : (half1 fs).testBit i with
 | false => rfl
 | true =>
   obtain ⟨f, hf, h1, h2⟩ := (bit_half1 fs i).1 hb
   have := h f hf
   omega
theorem half2_lt {fs : List Fld} (h : ∀ f ∈ fs, 2 ≤ f.1 ∧ f.1 ≤ 97) : half2 fs < 2 ^ 64 := by
 refine Nat.lt_pow_two_of_testBit _ fun i hi => ?_
 cases hb : (half2 fs).testBit i with
 | false => rfl
 | true =>
   obtain ⟨f, hf, h1, h2⟩ := (bit_half2 fs i).1 hb
   have := h f hf
   omega
/-! ### the map there and back -/
def mapPut (d : Nat) (fs : List Fld) : List UInt8 := (halves fs).foldr (fun h b => (mapFm d).put h ++ b) []
theorem mhead_eq (d : Nat) (ty : Int) (fs : List Fld) : mhead d ty fs = (typeFm d).put (ver d ++ dig3 ty.toNat) ++ mapPut d fs := by
 unfold mhead mapPut halves
 split
 ·simp
 ·simp [List.append_assoc]
theorem hex_right (d n : Nat) : (mapFm d).right (hexk 16 n) = true := right_b.2 ⟨hexk_len 16 n, hexk_only 16 n⟩
theorem or_top {n : Nat} (h : n < 2 ^ 63) : (n ||| 2 ^ 63) % 2 ^ 63 = n ∧ (n ||| 2 ^ 63).testBit 63 = true ∧ (n ||| 2 ^ 63) < 2 ^ 64 := by
 refine ⟨Nat.eq_of_testBit_eq fun i => ?_, by rw [Nat.testBit_or, Nat.testBit_two_pow]; simp, Nat.or_lt_two_pow (by omega) (by decide)⟩
 rw [Nat.testBit_mod_two_pow, Nat.testBit_or, Nat.testBit_two_pow]
 by_cases hi : i < 63
 ·have : ¬ (63 = i) := by omega
  simp [hi, this]
 ·have : n.testBit i = false := Nat.testBit_lt_two_pow (Nat.lt_of_lt_of_le h (Nat.pow_le_pow_right (by decide) (by omega)))
  simp [hi, this]
end Go.Proofs.YtkagijifkpoplaaGreatDoor.Fdd
