/-
  The reference's plant: Boot: the walk. No conditions.
-/
import Derived.Test.YteedjfgandgbkaaPpF
namespace Go.Proofs.Yteedjfgandgbkaa
open Go.RowKit Go.Maps
set_option linter.unusedVariables false
set_option linter.unusedSimpArgs false
theorem ix_and3 {a : Act} {o : Oper} {W : World} {x y : Operand} {k q : Int} (ho : o.op = .binOp .and 3 x y 3) (hx : a.eval x = .int .i64 k) (hy : a.eval y = .int .i64 3) (hq : low2 k = q) : (execOp a.eval o).run Try.prog W = .ok (.value (.int .i64 q)) W := by
  subst hq
  unfold execOp
  simp only [ho, hx, hy]
  go_simp
  try rfl
theorem exec_u8 {a : Act} {o : Oper} {W : World} {x : Operand} {p : Addr} {v : Value} (ho : o.op = .load 5 x) (hx : a.eval x = .pointer (some p)) (hc : W.cell? p = some v) : (execOp a.eval o).run Try.prog W = .ok (.value v) W := exec_load1 ho hx (by kernel_rfl) hc
/-- what the loop has made of a sector -/
def mixB (kq : Int) (old b : Sec) (j : Nat) : List UInt8 := (bootSec kq old b).1.take j ++ old.1.drop j
def bits1 (kq : Int) (j : Nat) : Bool := decide (kq = 1) || (decide (kq = 2) && decide (j < 32)) || (decide (kq = 3) && !decide (j < 32))
theorem boot_at (kq : Int) (h4 : kq = 0 ∨ kq = 1 ∨ kq = 2 ∨ kq = 3) (old b : Sec) {j : Nat} (hj : j < 64) : (bootSec kq old b).1[j]? = if bits1 kq j = true then b.1[j]? else old.1[j]? := by
  have hb := b.2
  have ho := old.2
  rcases h4 with rfl | rfl | rfl | rfl
  · rfl
  · rfl
  · by_cases h : j < 32
    · have e : bits1 2 j = true := by unfold bits1; simp [h]
      rw [if_pos e]
      show (b.1.take 32 ++ old.1.drop 32)[j]? = _
      rw [List.getElem?_append_left (by rw [List.length_take]; omega), List.getElem?_take, if_pos h]
    · have e : ¬ bits1 2 j = true := by unfold bits1; simp [h]
      rw [if_neg e]
      show (b.1.take 32 ++ old.1.drop 32)[j]? = _
      rw [List.getElem?_append_right (by rw [List.length_take]; omega), List.getElem?_drop, List.length_take]
      congr 1
      omega
  · by_cases h : j < 32
    · have e : ¬ bits1 3 j = true := by unfold bits1; simp [h]
      rw [if_neg e]
      show (old.1.take 32 ++ b.1.drop 32)[j]? = _
      rw [List.getElem?_append_left (by rw [List.length_take]; omega), List.getElem?_take, if_pos h]
    · have e : bits1 3 j = true := by unfold bits1; simp [h]
      rw [if_pos e]
      show (old.1.take 32 ++ b.1.drop 32)[j]? = _
      rw [List.getElem?_append_right (by rw [List.length_take]; omega), List.getElem?_drop, List.length_take]
      congr 1
      omega
theorem mixB_len (kq : Int) (old b : Sec) {j : Nat} (hj : j ≤ 64) : (mixB kq old b j).length = 64 := by
  unfold mixB
  rw [List.length_append, List.length_take, List.length_drop, (bootSec kq old b).2, old.2]
  omega
theorem mixB_zero (kq : Int) (old b : Sec) : mixB kq old b 0 = old.1 := rfl
theorem mixB_end (kq : Int) (old b : Sec) : mixB kq old b 64 = (bootSec kq old b).1 := by
  unfold mixB
  rw [List.take_of_length_le (by rw [(bootSec kq old b).2]; exact Nat.le_refl _), List.drop_of_length_le (by rw [old.2]; exact Nat.le_refl _), List.append_nil]
theorem mixB_keep (kq : Int) (h4 : kq = 0 ∨ kq = 1 ∨ kq = 2 ∨ kq = 3) (old b : Sec) {j : Nat} (hj : j < 64) (hc : bits1 kq j = false) : mixB kq old b (j + 1) = mixB kq old b j := by
  have h := boot_at kq h4 old b hj
  rw [if_neg (by rw [hc]; decide)] at h
  unfold mixB
  have ho := old.2
  rw [List.take_add_one, h, List.append_assoc]
  congr 1
  conv => rhs; rw [List.drop_eq_getElem_cons (show j < old.1.length by omega)]
  rw [List.getElem?_eq_getElem (show j < old.1.length by omega)]
  rfl
theorem mixB_put (kq : Int) (h4 : kq = 0 ∨ kq = 1 ∨ kq = 2 ∨ kq = 3) (old b : Sec) {j : Nat} (hj : j < 64) (hc : bits1 kq j = true) : mixB kq old b (j + 1) = (mixB kq old b j).set j (b.1.getD j 0) := by
  have h := boot_at kq h4 old b hj
  rw [if_pos hc] at h
  unfold mixB
  have ho := old.2
  have hb := b.2
  have hl : ((bootSec kq old b).1.take j).length = j := by rw [List.length_take, (bootSec kq old b).2]; omega
  rw [List.take_add_one, h, List.append_assoc, List.set_append_right _ _ (by omega), hl, Nat.sub_self]
  congr 1
  rw [List.drop_eq_getElem_cons (show j < old.1.length by omega), List.set_cons_zero, List.getD_eq_getElem?_getD, List.getElem?_eq_getElem (show j < b.1.length by omega)]
  rfl
theorem bcs_setI (l : List UInt8) (i : Nat) (c : UInt8) : (row1 (bcs l)).set i [.int .u8 (c.toNat : Int)] = row1 (bcs (l.set i c)) := by
  rw [row1_set]
  unfold bcs
  rw [List.map_set]
theorem bcs_oneV (l : List UInt8) : ∀ u ∈ bcs l, u.oneCell' = true := bcs_one l
theorem own_orw {w : World} {v : Value} {l : List UInt8} (h : Own w 0 5 v l) : Orw w 0 5 1 v (row1 (bcs l)) := ⟨fit_row1 (bcs_oneV l), by
  rw [len_row1, flat_row1, bcs_length]
  exact h⟩
theorem orw_secz {w : World} {Z : Nat → Prop} {g c : Nat} {s : Sec} (h : Orw w 0 5 1 (.slice (some ⟨g, 0, none⟩) 64 c) (row1 (bcs s.1))) (hZ : Z g) : SecZ w Z (.slice (some ⟨g, 0, none⟩) 64 c) (some s) := by
  obtain ⟨cur, hcur, hcs, htake, hn, hnc, hcm, _⟩ := orw_block h
  refine ⟨.inr ⟨s, g, 0, c, cur, rfl, rfl, hnc, ⟨s.2, by unfold maxLen; omega, fun _ => ⟨g, 0, rfl, fun i hi => ?_⟩⟩, hcur⟩, fun b hb => ?_⟩
  · have := h.el0 (i := i) (r := [.int .u8 ((s.1.getD i 0).toNat : Int)]) (by
      unfold row1
      rw [List.getElem?_map]
      have := bcs_at s.1 i (by rw [s.2]; exact hi)
      rw [this]
      rfl) 0 _ rfl
    rw [show 0 + i * 1 + 0 = 0 + i by omega] at this
    exact this
  · have hb : g = b := Option.some.inj hb
    subst hb
    exact hZ
theorem size_intR : (Try.prog.info? 3).map (·.size) = some 1 := by kernel_rfl
theorem size_byteR : (Try.prog.info? 5).map (·.size) = some 1 := by kernel_rfl
theorem RAtX.more {w : World} {q : Nat} {Z : Nat → Prop} {a : RP} {mv hv wv : Value} {zs : List Int} {rows : List (Value × List Value)} {ws : List (WtR × Value)} (h : RAtX w q Z a mv hv wv zs rows ws) (Z' : Nat → Prop) (hz : ∀ b, Z b → Z' b) (hl : ∀ b, Z' b → b < w.heap.size) : RAtX w q Z' a mv hv wv zs rows ws := { h with
  row := fun i r e hr he => by
    obtain ⟨h1, h2, h3⟩ := h.row i r e hr he
    exact ⟨h1, h2, fun k u hu => (h3 k u hu).more hz⟩
  wsec := fun x hx => (h.wsec x hx).more hz
  zm := fun b hb => hz b (h.zm b hb)
  zh := fun b hb => hz b (h.zh b hb)
  zlt := hl }
theorem bootR_take (kf : Nat → Int) : ∀ (R : List WtR) (j i : Nat) (x : WtR) (ds : List (Nat × (Int → Option Sec))), R[j]? = some x → bootR kf i (R.take (j + 1)) ds = bootD (kf (i + j)) x (bootR kf i (R.take j) ds)
  | y :: R, 0, i, x, ds, h => by
    have h : y = x := by simpa using h
    subst h
    rfl
  | y :: R, j + 1, i, x, ds, h => by
    have h : R[j]? = some x := by simpa using h
    have := bootR_take kf R j (i + 1) x (bootD (kf i) y ds) h
    rw [List.take_succ_cons, List.take_succ_cons]
    show bootR kf (i + 1) (R.take (j + 1)) _ = bootD _ x (bootR kf (i + 1) (R.take j) _)
    rw [this]
    congr 2
    omega
theorem bootR_sz (kf : Nat → Int) : ∀ (R : List WtR) (i : Nat) (ds : List (Nat × (Int → Option Sec))), (bootR kf i R ds).map (·.1) = ds.map (·.1)
  | [], i, ds => rfl
  | x :: R, i, ds => by
    show (bootR kf (i + 1) R (bootD (kf i) x ds)).map (·.1) = _
    rw [bootR_sz kf R]
    unfold bootD
    cases h : ds[x.1]? with
    | none => rfl
    | some e =>
      simp only
      rw [List.map_set]
      apply List.ext_getElem?
      intro j
      by_cases hj : x.1 = j
      · subst hj
        rw [List.getElem?_set_self (by rw [List.length_map]; exact (List.getElem?_eq_some_iff.1 h).1), List.getElem?_map, h]
        rfl
      · rw [List.getElem?_set_ne hj]
theorem bootR_at (kf : Nat → Int) (R : List WtR) (i j : Nat) (ds : List (Nat × (Int → Option Sec))) {e : Nat × (Int → Option Sec)} (h : ds[j]? = some e) : ∃ f, (bootR kf i R ds)[j]? = some f ∧ f.1 = e.1 := by
  have h1 := congrArg (fun l => l[j]?) (bootR_sz kf R i ds)
  simp only [List.getElem?_map, h, Option.map_some] at h1
  cases hq : (bootR kf i R ds)[j]? with
  | none => rw [hq] at h1; cases h1
  | some f =>
    rw [hq] at h1
    injection h1 with h1
    exact ⟨f, rfl, h1⟩
theorem zero_wait (w : World) : (zeroValue 72).run Try.prog w = .ok (.agg #[.int .i64 0, .int .i64 0, .slice none 0 0]) w := by kernel_rfl
section
variable {w w' : World} {q : Nat} {G Z : Nat → Prop} {a : RP}
set_option maxRecDepth 20000 in
set_option maxHeartbeats 4000000 in
theorem RAt.boot (h : RAt w q G Z a) {Ak : Option Addr} {nk ck : Nat} {zk : List Int} (hk : Ks w G Ak nk zk) (hR : a.R.length < 1099511627776) :
    Calls Try.prog 19 #[.pointer (some ⟨q, 0, none⟩), .slice Ak nk ck] w fun e w' => e = .returned (.tuple #[]) ∧ RTo w q G Z (a.boot zk) w' := by
  obtain ⟨mv, hv, wv, zs, rows, ws, h, rfl⟩ := h
  have hlt0 : ∀ b, RG q rows wv b → b < w.heap.size := fun b hb => h.lt hb
  have hz0 : ∀ b, Z b → b < w.heap.size := h.zlt
  obtain ⟨A, c, rfl, hz⟩ := h.mform
  obtain ⟨hvb, hc, rfl⟩ := h.hform
  have hwl : ws.length = a.R.length := by rw [← h.wr, List.length_map]
  obtain ⟨Aw, cw, rfl, _, _, hcz, _⟩ := h.wts.form
  simp only [List.length_map] at *
  generalize hn : ws.length = n at *
  generalize hm : a.ds.length = m at *
  have HX := Lib.hid h
  have HN := Lib.hid (show n = ws.length ∧ n = a.R.length from ⟨hn.symm, by omega⟩)
  have HM := Lib.hid (show a.ds.length = m from hm)
  have HL0 := Lib.hid hlt0
  have HZ0 := Lib.hid hz0
  have HKS := Lib.hid hk
  have HKN := Lib.hid hk.1
  have yn : (n : Int) < 1099511627776 := by omega
  have ynk : (nk : Int) ≤ 9223372036854775807 := by have := hk.2.1; omega
  obtain ⟨kf, hkf⟩ : ∃ kf : Nat → Int, kf = fun i => low2 (kval zk i) := ⟨_, rfl⟩
  have HKF := Lib.hid hkf
  clear h hk hR hz hwl hn hm hcz hlt0 hz0 hkf
  go_enter Try.func19, Try.ntmps19
  go_upto_region 0 with fail
  refine wp_region_lit ?_
  refine wpList_run (v := .int .i64 0) (wanted_none rfl) (gx_assign rfl rfl) ?_
  simp only [Act.put, List.setIfInBounds_toArray, List.set_cons_zero, List.set_cons_succ]
  go_wp2_with fail
  go_loopg [4, 5, 6, 7, 8, 9] n (fun gk iv s5 s6 s7 s8 s9 wr => ∃ (i : Nat) (rows' : List (Value × List Value)) (Z' : Nat → Prop), iv = .int .i64 (i : Int) ∧ i + gk = n ∧ RAtX wr q Z' { a with ds := bootR kf 0 (a.R.take i) a.ds } (.slice A m c) (.slice (some ⟨hvb, 0, none⟩) m hc) (.slice Aw n cw) zs rows' ws ∧ (∀ b, RG q rows' (.slice Aw n cw) b ↔ RG q rows (.slice Aw n cw) b) ∧ (∀ b, Z' b → Z b ∨ w.heap.size ≤ b) ∧ Turn (RG q rows (.slice Aw n cw)) w wr)
  case atStart => exact ⟨0, rows, Z, rfl, by omega, HX.out, fun b => Iff.rfl, fun b hb => .inl hb, Turn.refl _ _⟩
  obtain ⟨i, rows', Z', rfl, hgk, hxr, hrg, hzz, htr⟩ := hrel
  have HGK := Lib.hid hgk
  have HXR := Lib.hid hxr
  have HRG := Lib.hid hrg
  have HZZ := Lib.hid hzz
  have HTR := Lib.hid htr
  have HBR := Lib.hid (show Blk wr q 49 (refCells (.slice A m c) (.slice (some ⟨hvb, 0, none⟩) m hc) (.slice Aw n cw) a.off a.burns a.left a.done) from hxr.blk)
  have yi : (i : Int) ≤ (n : Int) := by omega
  clear hgk hxr hrg hzz htr
  by_cases hlt : i < n
  · have HLT := Lib.hid hlt
    have y3 : (i : Int) < (n : Int) := by omega
    obtain ⟨y, hy⟩ := getQ' (l := ws) (i := i) (by have := HN.out; omega)
    have HY := Lib.hid hy
    have HYR := Lib.hid (show a.R[i]? = some y.1 from by rw [← HX.out.wr, List.getElem?_map, hy]; rfl)
    obtain ⟨bw, cw2, e2, _, _⟩ := HXR.out.wts.some_ (by rw [List.length_map]; have := HN.out; omega)
    injection e2 with e2 e3 e4
    clear e3 e4
    subst e2
    obtain ⟨oi, hoi⟩ : ∃ x, x = 0 + i * 3 := ⟨_, rfl⟩
    have HOI := Lib.hid hoi
    have HEL := Lib.hid (show wr.rangeAt bw oi (wrow y) from by rw [hoi]; exact HXR.out.wts.el0 (i := i) (r := wrow y) (by rw [List.getElem?_map, hy]; rfl))
    obtain ⟨f0, hf0, hp0, hp1⟩ := HX.out.wok y.1 (List.mem_of_getElem? HYR.out)
    obtain ⟨f, hf, hf1⟩ := bootR_at kf (a.R.take i) 0 y.1.1 a.ds hf0
    obtain ⟨k, hk⟩ : ∃ k : Nat, (k : Int) = y.1.2.1 := ⟨y.1.2.1.toNat, by omega⟩
    have HFJ := Lib.hid hf
    have HK := Lib.hid hk
    have HKE := Lib.hid (show k < f.1 from by omega)
    have HDM := Lib.hid (show y.1.1 < m from by have h1 := (List.getElem?_eq_some_iff.1 hf0).1; have h2 := HM.out; omega)
    have HSZ := Lib.hid (HXR.out.wsec y (List.mem_of_getElem? hy))
    have HKT := Lib.hid (HKS.out)
    obtain ⟨kv, hkv⟩ : ∃ kv, kv = kval zk i := ⟨_, rfl⟩
    have HKV := Lib.hid hkv
    clear hy hlt hf0 hp0 hp1 hf hf1 hk hkv hoi
    go_upto_region 1 with fail
    refine wp_region_lit ?_
    refine wpList_run (v := .int .i64 (i : Int)) (wanted_none rfl) (exec_move rfl rfl) ?_
    simp only [Act.put, List.setIfInBounds_toArray, List.set_cons_zero, List.set_cons_succ]
    refine wpList_run (v := .pointer (some ⟨q, 0, none⟩)) (wanted_none rfl) (exec_move rfl rfl) ?_
    simp only [Act.put, List.setIfInBounds_toArray, List.set_cons_zero, List.set_cons_succ]
    refine wpList_run (v := .pointer (some ⟨q, 0, none⟩)) (wanted_none rfl) (exec_nil rfl rfl) ?_
    simp only [Act.put, List.setIfInBounds_toArray, List.set_cons_zero, List.set_cons_succ]
    refine wpList_run (v := .pointer (some ⟨q, 2, none⟩)) (wanted_none rfl) (exec_field (off := 0) (d := 2) rfl rfl (by kernel_rfl)) ?_
    simp only [Act.put, List.setIfInBounds_toArray, List.set_cons_zero, List.set_cons_succ]
    refine wpList_run (v := .slice (some ⟨bw, 0, none⟩) n cw) (wanted_none rfl) (exec_load1 rfl rfl (by kernel_rfl) (HBR.out.cell 2)) ?_
    simp only [Act.put, List.setIfInBounds_toArray, List.set_cons_zero, List.set_cons_succ]
    refine wpList_run (v := .int .i64 (n : Int)) (wanted_none rfl) (gx_len rfl rfl Try.underlying47) ?_
    simp only [Act.put, List.setIfInBounds_toArray, List.set_cons_zero, List.set_cons_succ]
    refine wpList_run (v := .bool true) (wanted_none rfl) (ix_lss rfl rfl rfl (decide_eq_true y3)) ?_
    simp only [Act.put, List.setIfInBounds_toArray, List.set_cons_zero, List.set_cons_succ]
    go_upto_region 3 with fail
    refine wp_region_lit ?_
    refine wpList_run (v := .int .i64 0) (wanted_none rfl) (gx_assign rfl rfl) ?_
    simp only [Act.put, List.setIfInBounds_toArray, List.set_cons_zero, List.set_cons_succ]
    go_upto_region 4 with fail
    refine wp_region_lit ?_
    refine wpList_run (v := .slice Ak nk ck) (wanted_none rfl) (exec_move rfl rfl) ?_
    simp only [Act.put, List.setIfInBounds_toArray, List.set_cons_zero, List.set_cons_succ]
    refine wpList_run (v := .int .i64 (nk : Int)) (wanted_none rfl) (gx_len rfl rfl Try.underlying22) ?_
    simp only [Act.put, List.setIfInBounds_toArray, List.set_cons_zero, List.set_cons_succ]
    refine wpList_run (v := .bool (decide (0 < (nk : Int)))) (wanted_none rfl) (ix_gtr rfl rfl rfl rfl) ?_
    simp only [Act.put, List.setIfInBounds_toArray, List.set_cons_zero, List.set_cons_succ]
    go_upto_if 21 with fail
    go_cut [5] from 21 to 28 (fun kx wx => kx = .int .i64 kv ∧ wr = wx)
    case first =>
      by_cases hnk : 0 < nk
      · have y4 : 0 < (nk : Int) := by omega
        obtain ⟨_, _, hcell⟩ := HKS.out
        obtain ⟨gk_, ok, ek, hgl, hgn, hce⟩ := hcell hnk
        subst ek
        obtain ⟨ik, hik⟩ : ∃ ik, ik = i % nk := ⟨_, rfl⟩
        have HIK := Lib.hid hik
        obtain ⟨okk, hokk⟩ : ∃ x, x = ok + ik * 1 := ⟨_, rfl⟩
        have HOK := Lib.hid hokk
        have HKM := Lib.hid (show ik < nk from by rw [hik]; exact Nat.mod_lt i hnk)
        have hc1 := hce (i % nk) (Nat.mod_lt i hnk)
        have HCK := Lib.hid (show wr.cell? ⟨gk_, okk, none⟩ = some (.int .i64 kv) from by
          rw [hokk, hik, Nat.mul_one, (HTR.out.cell (p := ⟨gk_, ok + i % nk, none⟩) hgl hgn), hc1, HKV.out]
          unfold kval
          rw [HKN.out, if_neg (by omega)])
        clear hcell hce hgl hgn hc1 hnk hik hokk
        rw [decide_eq_true y4]
        go_upto_region 5 with fail
        refine wp_region_lit ?_
        refine wpList_run (v := .slice (some ⟨gk_, ok, none⟩) nk ck) (wanted_none rfl) (exec_move rfl rfl) ?_
        simp only [Act.put, List.setIfInBounds_toArray, List.set_cons_zero, List.set_cons_succ]
        refine wpList_run (v := .int .i64 (i : Int)) (wanted_none rfl) (exec_move rfl rfl) ?_
        simp only [Act.put, List.setIfInBounds_toArray, List.set_cons_zero, List.set_cons_succ]
        refine wpList_run (v := .slice (some ⟨gk_, ok, none⟩) nk ck) (wanted_none rfl) (exec_move rfl rfl) ?_
        simp only [Act.put, List.setIfInBounds_toArray, List.set_cons_zero, List.set_cons_succ]
        refine wpList_run (v := .int .i64 (nk : Int)) (wanted_none rfl) (gx_len rfl rfl Try.underlying22) ?_
        simp only [Act.put, List.setIfInBounds_toArray, List.set_cons_zero, List.set_cons_succ]
        refine wpList_run (v := .int .i64 (ik : Int)) (wanted_none rfl) (by rw [HIK.out]; exact ix_rem (m := nk) rfl rfl rfl (by omega) (by omega)) ?_
        simp only [Act.put, List.setIfInBounds_toArray, List.set_cons_zero, List.set_cons_succ]
        refine wpList_run (v := .pointer (some ⟨gk_, okk, none⟩)) (wanted_none rfl) (by rw [HOK.out]; exact gx_iaddr (i := ik) (sz := 1) rfl rfl rfl Try.underlying22 size_intR HKM.out rfl) ?_
        simp only [Act.put, List.setIfInBounds_toArray, List.set_cons_zero, List.set_cons_succ]
        refine wpList_run (v := .int .i64 kv) (wanted_none rfl) (exec_load1 rfl rfl (by kernel_rfl) HCK.out) ?_
        simp only [Act.put, List.setIfInBounds_toArray, List.set_cons_zero, List.set_cons_succ]
        refine wpList_run (v := .int .i64 kv) (wanted_none rfl) (gx_assign rfl rfl) ?_
        simp only [Act.put, List.setIfInBounds_toArray, List.set_cons_zero, List.set_cons_succ]
        go_wp2_with fail
        go_meet
        exact ⟨rfl, rfl⟩
      · have y4 : ¬ 0 < (nk : Int) := by omega
        have hkz : kv = 0 := by
          rw [HKV.out]
          unfold kval
          rw [HKN.out, if_pos (by omega)]
        clear hnk
        rw [decide_eq_false y4]
        go_wp2_with fail
        go_meet
        exact ⟨by rw [hkz], rfl⟩
    obtain ⟨rfl, hw⟩ := hcut
    subst hw
    go_upto_region 6 with fail
    refine wp_region_lit ?_
    refine wpList_run (v := .pointer (some ⟨q, 0, none⟩)) (wanted_none rfl) (exec_move rfl rfl) ?_
    simp only [Act.put, List.setIfInBounds_toArray, List.set_cons_zero, List.set_cons_succ]
    refine wpList_run (v := .pointer (some ⟨q, 0, none⟩)) (wanted_none rfl) (exec_nil rfl rfl) ?_
    simp only [Act.put, List.setIfInBounds_toArray, List.set_cons_zero, List.set_cons_succ]
    refine wpList_run (v := .pointer (some ⟨q, 2, none⟩)) (wanted_none rfl) (exec_field (off := 0) (d := 2) rfl rfl (by kernel_rfl)) ?_
    simp only [Act.put, List.setIfInBounds_toArray, List.set_cons_zero, List.set_cons_succ]
    refine wpList_run (v := .slice (some ⟨bw, 0, none⟩) n cw) (wanted_none rfl) (exec_load1 rfl rfl (by kernel_rfl) (HBR.out.cell 2)) ?_
    simp only [Act.put, List.setIfInBounds_toArray, List.set_cons_zero, List.set_cons_succ]
    refine wpList_run (v := .int .i64 (i : Int)) (wanted_none rfl) (exec_move rfl rfl) ?_
    simp only [Act.put, List.setIfInBounds_toArray, List.set_cons_zero, List.set_cons_succ]
    refine wpList_run (v := .pointer (some ⟨bw, oi, none⟩)) (wanted_none rfl) (by rw [HOI.out]; exact gx_iaddr (i := i) (sz := 3) rfl rfl rfl Try.underlying47 size_wait HLT.out rfl) ?_
    simp only [Act.put, List.setIfInBounds_toArray, List.set_cons_zero, List.set_cons_succ]
    refine wpList_run (v := .agg (wrow y).toArray) (wanted_none rfl) (gx_loads rfl rfl HEL.out Try.underlying72 rfl (by rw [size_wait]; rfl)) ?_
    simp only [Act.put, List.setIfInBounds_toArray, List.set_cons_zero, List.set_cons_succ]
    refine wpList_new 72 (.tmp 6) (.tmp 35) (wrow y).toArray rfl rfl (zero_wait _) rfl rfl rfl rfl rfl rfl (by rw [size_wait]; rfl) (by simpa using wrow_one y HSZ.out.one.1) ?_
    intro w3 gv hge hbv ht3
    simp only [Act.put, List.setIfInBounds_toArray, List.set_cons_zero, List.set_cons_succ]
    have HBV := Lib.hid (show Blk w3 gv 72 #[.int .i64 (y.1.1 : Int), .int .i64 (k : Int), y.2] from by rw [HK.out]; exact hbv)
    have HX3 := Lib.hid (HXR.out.off ht3 (fun _ _ e => e) fun _ _ _ e => e)
    have HT3 := Lib.hid (HTR.out.trans ht3 fun _ _ e => e.elim)
    have HGV := Lib.hid (show w.heap.size ≤ gv from Nat.le_trans HTR.out.size hge)
    have HFL := Lib.hid (flushed_walk (i := y.1.1) (k := k) (d := f) HX3.out.blk HX3.out.hasR HFJ.out HKE.out)
    clear hge hbv ht3
    go_upto_region 7 with fail
    refine wp_region_lit ?_
    refine wpList_run (v := .pointer (some ⟨q, 0, none⟩)) (wanted_none rfl) (exec_move rfl rfl) ?_
    simp only [Act.put, List.setIfInBounds_toArray, List.set_cons_zero, List.set_cons_succ]
    refine wpList_run (v := .pointer (some ⟨gv, 0, none⟩)) (wanted_none rfl) (exec_field (off := 0) (d := 0) rfl rfl (by kernel_rfl)) ?_
    simp only [Act.put, List.setIfInBounds_toArray, List.set_cons_zero, List.set_cons_succ]
    refine wpList_run (v := .int .i64 (y.1.1 : Int)) (wanted_none rfl) (exec_load1 rfl rfl (by kernel_rfl) (HBV.out.cell 0)) ?_
    simp only [Act.put, List.setIfInBounds_toArray, List.set_cons_zero, List.set_cons_succ]
    refine wpList_run (v := .pointer (some ⟨gv, 1, none⟩)) (wanted_none rfl) (exec_field (off := 0) (d := 1) rfl rfl (by kernel_rfl)) ?_
    simp only [Act.put, List.setIfInBounds_toArray, List.set_cons_zero, List.set_cons_succ]
    refine wpList_run (v := .int .i64 (k : Int)) (wanted_none rfl) (exec_load1 rfl rfl (by kernel_rfl) (HBV.out.cell 1)) ?_
    simp only [Act.put, List.setIfInBounds_toArray, List.set_cons_zero, List.set_cons_succ]
    refine wpList_op rfl fun K9 HK9 => ?_
    go_wp2_with fail
    refine (HFL.out).mono ?_
    rintro e w4 ⟨gb, cb, rfl, how, hgb, ht⟩
    refine HK9.out _ _ ?_
    clear HK9
    try simp only [Act.put, List.setIfInBounds_toArray, List.set_cons_zero, List.set_cons_succ]
    obtain ⟨old, hold⟩ : ∃ s : Sec, s = (f.2 (k : Int)).getD zeroSec := ⟨_, rfl⟩
    rw [← hold] at how
    have HOLD := Lib.hid hold
    have HX4 := Lib.hid (HX3.out.off ht (fun _ _ e => e) fun _ _ _ e => e)
    have HT4 := Lib.hid (HT3.out.trans ht fun _ _ e => e.elim)
    have HBV4 := Lib.hid (HBV.out.turn ht fun e => e)
    have HOW4 := Lib.hid (own_orw how)
    have HGB := Lib.hid (show w.heap.size ≤ gb ∧ (∀ b, Z' b → b < gb) ∧ gv < gb from ⟨Nat.le_trans HT3.out.size hgb, fun b hb => by have := HX3.out.zlt b hb; omega, by have := HBV.out.lt; omega⟩)
    have HSZ4 := Lib.hid (HX4.out.wsec y (List.mem_of_getElem? HY.out))
    obtain ⟨hsn, _⟩ | ⟨sn, bn, on, cn, cun, hsn, hun, hcn, hbn, hblk⟩ := HSZ4.out.1
    · cases hsn
    have HUN := Lib.hid hun
    have HSN := Lib.hid (show sn = y.1.2.2 from by injection hsn with h; exact h.symm)
    have HBN := Lib.hid (show ∀ j, j < 64 → w4.cell? ⟨bn, on + j * 1, none⟩ = some (.int .u8 ((y.1.2.2.1.getD j 0).toNat : Int)) from fun j hj => by
      obtain ⟨b, o, e, hcc⟩ := hbn.2.2 (by omega)
      injection e with e
      injection e with e1 e2
      subst e1 e2
      rw [Nat.mul_one, hcc j hj, HSN.out])
    have HBNG := Lib.hid (show bn ≠ gb from fun e => by have h1 := HSZ4.out.2 bn (by rw [hun]; rfl); have h2 := (HGB.out).2.1 bn h1; omega)
    obtain ⟨kq, hkq⟩ : ∃ kq, kq = low2 kv := ⟨_, rfl⟩
    have HKQ := Lib.hid hkq
    have HQ4 := Lib.hid (low2_four kv)
    clear how hgb ht hold hsn hun hcn hbn hblk hkq HFL
    refine wpList_run (v := .slice (some ⟨gb, 0, none⟩) 64 cb) (wanted_none rfl) (gx_assign rfl rfl) ?_
    simp only [Act.put, List.setIfInBounds_toArray, List.set_cons_zero, List.set_cons_succ]
    go_upto_region 8 with fail
    refine wp_region_lit ?_
    refine wpList_run (v := .int .i64 0) (wanted_none rfl) (gx_assign rfl rfl) ?_
    simp only [Act.put, List.setIfInBounds_toArray, List.set_cons_zero, List.set_cons_succ]
    generalize gk = gk0 at *
    generalize hwr0 : wr = wr0 at *
    clear hwr0
    go_wp2_with fail
    go_loopg [8, 9] 64 (fun gk jv s9 wr => ∃ j : Nat, jv = .int .i64 (j : Int) ∧ j + gk = 64 ∧ Orw wr 0 5 1 (.slice (some ⟨gb, 0, none⟩) 64 cb) (row1 (bcs (mixB kq old y.1.2.2 j))) ∧ Turn (only gb) w4 wr)
    case atStart => exact ⟨0, rfl, rfl, HOW4.out, Turn.refl _ _⟩
    obtain ⟨j, rfl, hgk2, hox, htr2⟩ := hrel
    have HGK2 := Lib.hid hgk2
    have HOX := Lib.hid hox
    have HTR2 := Lib.hid htr2
    have yj : (j : Int) ≤ 64 := by omega
    clear hgk2 hox htr2
    by_cases hjl : j < 64
    · have HJL := Lib.hid hjl
      have y6 : (j : Int) < 64 := by omega
      obtain ⟨curb, hcb, hcbs, _, _, hcbn, _, _⟩ := orw_block HOX.out
      have HCB := Lib.hid hcb
      have HCBS := Lib.hid (show 64 ≤ curb.size by omega)
      have HBVr := Lib.hid (HBV4.out.turn HTR2.out fun e => by have h1 : gv = gb := e; have := HGB.out.2.2; omega)
      have HCN := Lib.hid (show wr.cell? ⟨bn, on + j * 1, none⟩ = some (.int .u8 ((y.1.2.2.1.getD j 0).toNat : Int)) from (HTR2.out.cell (World.block_lt_of_cell? _ _ (HBN.out j hjl)) HBNG.out).trans (HBN.out j hjl))
      clear hjl hcb hcbs hcbn
      go_upto_region 9 with fail
      refine wp_region_lit ?_
      refine wpList_run (v := .int .i64 (j : Int)) (wanted_none rfl) (exec_move rfl rfl) ?_
      simp only [Act.put, List.setIfInBounds_toArray, List.set_cons_zero, List.set_cons_succ]
      refine wpList_run (v := .bool true) (wanted_none rfl) (ix_lss rfl rfl rfl (decide_eq_true y6)) ?_
      simp only [Act.put, List.setIfInBounds_toArray, List.set_cons_zero, List.set_cons_succ]
      by_cases h32 : j < 32
      · have H32 := Lib.hid h32
        have y7 : (j : Int) < 32 := by omega
        clear h32
        go_upto_region 11 with fail
        refine wp_region_lit ?_
        refine wpList_run (v := .int .i64 (j : Int)) (wanted_none rfl) (exec_move rfl rfl) ?_
        simp only [Act.put, List.setIfInBounds_toArray, List.set_cons_zero, List.set_cons_succ]
        refine wpList_run (v := .bool true) (wanted_none rfl) (ix_lss rfl rfl rfl (decide_eq_true y7)) ?_
        simp only [Act.put, List.setIfInBounds_toArray, List.set_cons_zero, List.set_cons_succ]
        refine wpList_run (v := .bool true) (wanted_none rfl) (gx_assign rfl rfl) ?_
        simp only [Act.put, List.setIfInBounds_toArray, List.set_cons_zero, List.set_cons_succ]
        rcases HQ4.out with hq | hq | hq | hq
        · have HQ := Lib.hid hq
          have HKQ2 := Lib.hid (show kq = 0 from HKQ.out.trans hq)
          have HBI := Lib.hid (show bits1 kq j = false from by rw [HKQ2.out]; unfold bits1; simp)
          clear hq
          go_upto_region 12 with fail
          refine wp_region_lit ?_
          refine wpList_run (v := .int .i64 kv) (wanted_none rfl) (exec_move rfl rfl) ?_
          simp only [Act.put, List.setIfInBounds_toArray, List.set_cons_zero, List.set_cons_succ]
          refine wpList_run (v := .int .i64 0) (wanted_none rfl) (ix_and3 rfl rfl rfl HQ.out) ?_
          simp only [Act.put, List.setIfInBounds_toArray, List.set_cons_zero, List.set_cons_succ]
          refine wpList_run (v := .bool false) (wanted_none rfl) (ix_eql rfl rfl rfl (by decide)) ?_
          simp only [Act.put, List.setIfInBounds_toArray, List.set_cons_zero, List.set_cons_succ]
          refine wpList_run (v := .bool false) (wanted_none rfl) (exec_move rfl rfl) ?_
          simp only [Act.put, List.setIfInBounds_toArray, List.set_cons_zero, List.set_cons_succ]
          refine wpList_run (v := .int .i64 kv) rfl (exec_move rfl rfl) ?_
          simp only [Act.put, List.setIfInBounds_toArray, List.set_cons_zero, List.set_cons_succ]
          refine wpList_run (v := .int .i64 0) rfl (ix_and3 rfl rfl rfl HQ.out) ?_
          simp only [Act.put, List.setIfInBounds_toArray, List.set_cons_zero, List.set_cons_succ]
          refine wpList_run (v := .bool false) rfl (ix_eql rfl rfl rfl (by decide)) ?_
          simp only [Act.put, List.setIfInBounds_toArray, List.set_cons_zero, List.set_cons_succ]
          refine wpList_run (v := .bool false) rfl (exec_move rfl rfl) ?_
          simp only [Act.put, List.setIfInBounds_toArray, List.set_cons_zero, List.set_cons_succ]
          refine wpList_skip (by go_simp) ?_
          simp only [Act.put, List.setIfInBounds_toArray, List.set_cons_zero, List.set_cons_succ]
          refine wpList_run (v := .bool false) rfl (ix_pickF rfl rfl rfl) ?_
          simp only [Act.put, List.setIfInBounds_toArray, List.set_cons_zero, List.set_cons_succ]
          refine wpList_run (v := .bool false) (wanted_none rfl) (ix_pickF rfl rfl rfl) ?_
          simp only [Act.put, List.setIfInBounds_toArray, List.set_cons_zero, List.set_cons_succ]
          refine wpList_run (v := .bool false) (wanted_none rfl) (exec_move rfl rfl) ?_
          simp only [Act.put, List.setIfInBounds_toArray, List.set_cons_zero, List.set_cons_succ]
          refine wpList_run (v := .int .i64 kv) rfl (exec_move rfl rfl) ?_
          simp only [Act.put, List.setIfInBounds_toArray, List.set_cons_zero, List.set_cons_succ]
          refine wpList_run (v := .int .i64 0) rfl (ix_and3 rfl rfl rfl HQ.out) ?_
          simp only [Act.put, List.setIfInBounds_toArray, List.set_cons_zero, List.set_cons_succ]
          refine wpList_run (v := .bool false) rfl (ix_eql rfl rfl rfl (by decide)) ?_
          simp only [Act.put, List.setIfInBounds_toArray, List.set_cons_zero, List.set_cons_succ]
          refine wpList_run (v := .bool false) rfl (exec_move rfl rfl) ?_
          simp only [Act.put, List.setIfInBounds_toArray, List.set_cons_zero, List.set_cons_succ]
          refine wpList_skip (by go_simp) ?_
          simp only [Act.put, List.setIfInBounds_toArray, List.set_cons_zero, List.set_cons_succ]
          refine wpList_skip (by go_simp) ?_
          simp only [Act.put, List.setIfInBounds_toArray, List.set_cons_zero, List.set_cons_succ]
          refine wpList_run (v := .bool false) rfl (ix_pickF rfl rfl rfl) ?_
          simp only [Act.put, List.setIfInBounds_toArray, List.set_cons_zero, List.set_cons_succ]
          refine wpList_run (v := .bool false) (wanted_none rfl) (ix_pickF rfl rfl rfl) ?_
          simp only [Act.put, List.setIfInBounds_toArray, List.set_cons_zero, List.set_cons_succ]
          have HO6 := Lib.hid (show Orw wr 0 5 1 (.slice (some ⟨gb, 0, none⟩) 64 cb) (row1 (bcs (mixB kq old y.1.2.2 (j + 1)))) from by
            rw [mixB_keep kq (by rw [HKQ.out]; exact HQ4.out) old y.1.2.2 HJL.out HBI.out]
            exact HOX.out)
          go_upto_region 10 with fail
          refine wp_region_lit ?_
          refine wpList_run (v := .int .i64 (j : Int)) (wanted_none rfl) (exec_move rfl rfl) ?_
          simp only [Act.put, List.setIfInBounds_toArray, List.set_cons_zero, List.set_cons_succ]
          refine wpList_run (v := .int .i64 ((j + 1 : Nat) : Int)) (wanted_none rfl) (ix_add rfl rfl rfl (by omega) (by omega)) ?_
          simp only [Act.put, List.setIfInBounds_toArray, List.set_cons_zero, List.set_cons_succ]
          refine wpList_run (v := .int .i64 ((j + 1 : Nat) : Int)) (wanted_none rfl) (gx_assign rfl rfl) ?_
          simp only [Act.put, List.setIfInBounds_toArray, List.set_cons_zero, List.set_cons_succ]
          go_wp2_with fail
          go_roundg (64 - (j + 1))
          case measure => have := HGK2.out; have := HJL.out; omega
          case rel => exact ⟨j + 1, rfl, by have := HJL.out; omega, HO6.out, HTR2.out⟩
        · have HQ := Lib.hid hq
          have HKQ2 := Lib.hid (show kq = 1 from HKQ.out.trans hq)
          have HBI := Lib.hid (show bits1 kq j = true from by rw [HKQ2.out]; unfold bits1; simp)
          clear hq
          go_upto_region 12 with fail
          first
          | (rename_i K9 hK9; have HKC := Lib.hid hK9; clear hK9)
          | (rename_i K9 hK9 K8; have HKC := Lib.hid hK9; clear hK9)
          refine wp_region_lit ?_
          refine wpList_run (v := .int .i64 kv) (wanted_none rfl) (exec_move rfl rfl) ?_
          simp only [Act.put, List.setIfInBounds_toArray, List.set_cons_zero, List.set_cons_succ]
          refine wpList_run (v := .int .i64 1) (wanted_none rfl) (ix_and3 rfl rfl rfl HQ.out) ?_
          simp only [Act.put, List.setIfInBounds_toArray, List.set_cons_zero, List.set_cons_succ]
          refine wpList_run (v := .bool true) (wanted_none rfl) (ix_eql rfl rfl rfl (by decide)) ?_
          simp only [Act.put, List.setIfInBounds_toArray, List.set_cons_zero, List.set_cons_succ]
          go_wp2_with fail
          refine HKC.out _ _ ?_
          clear HKC
          go_upto_region 13 with fail
          refine wp_region_lit ?_
          refine wpList_run (v := .slice (some ⟨gb, 0, none⟩) 64 cb) (wanted_none rfl) (exec_move rfl rfl) ?_
          simp only [Act.put, List.setIfInBounds_toArray, List.set_cons_zero, List.set_cons_succ]
          refine wpList_run (v := .int .i64 (j : Int)) (wanted_none rfl) (exec_move rfl rfl) ?_
          simp only [Act.put, List.setIfInBounds_toArray, List.set_cons_zero, List.set_cons_succ]
          refine wpList_run (v := .pointer (some ⟨gv, 2, none⟩)) (wanted_none rfl) (exec_field (off := 0) (d := 2) rfl rfl (by kernel_rfl)) ?_
          simp only [Act.put, List.setIfInBounds_toArray, List.set_cons_zero, List.set_cons_succ]
          refine wpList_run (v := .slice (some ⟨bn, on, none⟩) 64 cn) (wanted_none rfl) (exec_load1 rfl rfl (by kernel_rfl) (by rw [← HUN.out]; exact HBVr.out.cell 2)) ?_
          simp only [Act.put, List.setIfInBounds_toArray, List.set_cons_zero, List.set_cons_succ]
          refine wpList_run (v := .int .i64 (j : Int)) (wanted_none rfl) (exec_move rfl rfl) ?_
          simp only [Act.put, List.setIfInBounds_toArray, List.set_cons_zero, List.set_cons_succ]
          refine wpList_run (v := .pointer (some ⟨bn, on + j * 1, none⟩)) (wanted_none rfl) (gx_iaddr (i := j) (sz := 1) rfl rfl rfl Try.underlying36 size_byteR HJL.out rfl) ?_
          simp only [Act.put, List.setIfInBounds_toArray, List.set_cons_zero, List.set_cons_succ]
          refine wpList_run (v := .int .u8 ((y.1.2.2.1.getD j 0).toNat : Int)) (wanted_none rfl) (exec_u8 rfl rfl HCN.out) ?_
          simp only [Act.put, List.setIfInBounds_toArray, List.set_cons_zero, List.set_cons_succ]
          refine wpList_run (v := .pointer (some ⟨gb, 0 + j * 1, none⟩)) (wanted_none rfl) (gx_iaddr (i := j) (sz := 1) rfl rfl rfl Try.underlying36 size_byteR HJL.out rfl) ?_
          simp only [Act.put, List.setIfInBounds_toArray, List.set_cons_zero, List.set_cons_succ]
          refine wpList_storeU (0 + j * 1) (.int .u8 ((y.1.2.2.1.getD j 0).toNat : Int)) (wanted_none rfl) 5 _ _ rfl HCB.out rfl rfl (by have := HJL.out; have := HCBS.out; omega) ⟨rfl, rfl⟩ (by kernel_rfl) ?_
          intro w6 hb6 ht6
          simp only [Act.put, List.setIfInBounds_toArray, List.set_cons_zero, List.set_cons_succ]
          have hb6' : Blk w6 gb 5 (curb.setIfInBounds j (.int .u8 ((y.1.2.2.1.getD j 0).toNat : Int))) := by rw [show 0 + j * 1 = j by omega] at hb6; exact hb6
          have HO6 := Lib.hid (show Orw w6 0 5 1 (.slice (some ⟨gb, 0, none⟩) 64 cb) (row1 (bcs (mixB kq old y.1.2.2 (j + 1)))) from by
            rw [mixB_put kq (by rw [HKQ.out]; exact HQ4.out) old y.1.2.2 HJL.out HBI.out, ← bcs_setI]
            refine orw_set HOX.out HCB.out hb6' (by simp) HJL.out rfl (fun x hx => ?_) (fun m => ?_) (by decide)
            · have hx : x ∈ [Value.int .u8 ((y.1.2.2.1.getD j 0).toNat : Int)] := hx
              rw [List.mem_singleton.1 hx]
              rfl
            · rw [Array.getElem?_setIfInBounds]
              by_cases hjm : j = m
              · subst hjm
                rw [if_pos rfl, if_pos (by have := HCBS.out; have := HJL.out; omega), if_pos (by omega), show j - j * 1 = 0 by omega]
                rfl
              · rw [if_neg hjm, if_neg (by omega)])
          have HT6 := Lib.hid (HTR2.out.trans ht6 fun _ _ e => e)
          clear hb6 hb6' ht6
          go_upto_region 10 with fail
          refine wp_region_lit ?_
          refine wpList_run (v := .int .i64 (j : Int)) (wanted_none rfl) (exec_move rfl rfl) ?_
          simp only [Act.put, List.setIfInBounds_toArray, List.set_cons_zero, List.set_cons_succ]
          refine wpList_run (v := .int .i64 ((j + 1 : Nat) : Int)) (wanted_none rfl) (ix_add rfl rfl rfl (by omega) (by omega)) ?_
          simp only [Act.put, List.setIfInBounds_toArray, List.set_cons_zero, List.set_cons_succ]
          refine wpList_run (v := .int .i64 ((j + 1 : Nat) : Int)) (wanted_none rfl) (gx_assign rfl rfl) ?_
          simp only [Act.put, List.setIfInBounds_toArray, List.set_cons_zero, List.set_cons_succ]
          go_wp2_with fail
          go_roundg (64 - (j + 1))
          case measure => have := HGK2.out; have := HJL.out; omega
          case rel => exact ⟨j + 1, rfl, by have := HJL.out; omega, HO6.out, HT6.out⟩
        · have HQ := Lib.hid hq
          have HKQ2 := Lib.hid (show kq = 2 from HKQ.out.trans hq)
          have HBI := Lib.hid (show bits1 kq j = true from by rw [HKQ2.out]; unfold bits1; simp [H32.out])
          clear hq
          go_upto_region 12 with fail
          refine wp_region_lit ?_
          refine wpList_run (v := .int .i64 kv) (wanted_none rfl) (exec_move rfl rfl) ?_
          simp only [Act.put, List.setIfInBounds_toArray, List.set_cons_zero, List.set_cons_succ]
          refine wpList_run (v := .int .i64 2) (wanted_none rfl) (ix_and3 rfl rfl rfl HQ.out) ?_
          simp only [Act.put, List.setIfInBounds_toArray, List.set_cons_zero, List.set_cons_succ]
          refine wpList_run (v := .bool false) (wanted_none rfl) (ix_eql rfl rfl rfl (by decide)) ?_
          simp only [Act.put, List.setIfInBounds_toArray, List.set_cons_zero, List.set_cons_succ]
          refine wpList_run (v := .bool false) (wanted_none rfl) (exec_move rfl rfl) ?_
          simp only [Act.put, List.setIfInBounds_toArray, List.set_cons_zero, List.set_cons_succ]
          refine wpList_run (v := .int .i64 kv) rfl (exec_move rfl rfl) ?_
          simp only [Act.put, List.setIfInBounds_toArray, List.set_cons_zero, List.set_cons_succ]
          refine wpList_run (v := .int .i64 2) rfl (ix_and3 rfl rfl rfl HQ.out) ?_
          simp only [Act.put, List.setIfInBounds_toArray, List.set_cons_zero, List.set_cons_succ]
          refine wpList_run (v := .bool true) rfl (ix_eql rfl rfl rfl (by decide)) ?_
          simp only [Act.put, List.setIfInBounds_toArray, List.set_cons_zero, List.set_cons_succ]
          refine wpList_run (v := .bool true) rfl (exec_move rfl rfl) ?_
          simp only [Act.put, List.setIfInBounds_toArray, List.set_cons_zero, List.set_cons_succ]
          refine wpList_run (v := .bool true) rfl (exec_move rfl rfl) ?_
          simp only [Act.put, List.setIfInBounds_toArray, List.set_cons_zero, List.set_cons_succ]
          refine wpList_run (v := .bool true) rfl (ix_pickT rfl rfl rfl) ?_
          simp only [Act.put, List.setIfInBounds_toArray, List.set_cons_zero, List.set_cons_succ]
          refine wpList_run (v := .bool true) (wanted_none rfl) (ix_pickF rfl rfl rfl) ?_
          simp only [Act.put, List.setIfInBounds_toArray, List.set_cons_zero, List.set_cons_succ]
          refine wpList_run (v := .bool true) (wanted_none rfl) (exec_move rfl rfl) ?_
          simp only [Act.put, List.setIfInBounds_toArray, List.set_cons_zero, List.set_cons_succ]
          refine wpList_skip (by go_simp) ?_
          simp only [Act.put, List.setIfInBounds_toArray, List.set_cons_zero, List.set_cons_succ]
          refine wpList_skip (by go_simp) ?_
          simp only [Act.put, List.setIfInBounds_toArray, List.set_cons_zero, List.set_cons_succ]
          refine wpList_skip (by go_simp) ?_
          simp only [Act.put, List.setIfInBounds_toArray, List.set_cons_zero, List.set_cons_succ]
          refine wpList_skip (by go_simp) ?_
          simp only [Act.put, List.setIfInBounds_toArray, List.set_cons_zero, List.set_cons_succ]
          refine wpList_skip (by go_simp; intro h; cases h) ?_
          simp only [Act.put, List.setIfInBounds_toArray, List.set_cons_zero, List.set_cons_succ]
          refine wpList_skip (by go_simp; intro h; cases h) ?_
          simp only [Act.put, List.setIfInBounds_toArray, List.set_cons_zero, List.set_cons_succ]
          refine wpList_skip (by go_simp) ?_
          simp only [Act.put, List.setIfInBounds_toArray, List.set_cons_zero, List.set_cons_succ]
          refine wpList_run (v := .bool true) (wanted_none rfl) (ix_pickT rfl rfl rfl) ?_
          simp only [Act.put, List.setIfInBounds_toArray, List.set_cons_zero, List.set_cons_succ]
          go_upto_region 13 with fail
          refine wp_region_lit ?_
          refine wpList_run (v := .slice (some ⟨gb, 0, none⟩) 64 cb) (wanted_none rfl) (exec_move rfl rfl) ?_
          simp only [Act.put, List.setIfInBounds_toArray, List.set_cons_zero, List.set_cons_succ]
          refine wpList_run (v := .int .i64 (j : Int)) (wanted_none rfl) (exec_move rfl rfl) ?_
          simp only [Act.put, List.setIfInBounds_toArray, List.set_cons_zero, List.set_cons_succ]
          refine wpList_run (v := .pointer (some ⟨gv, 2, none⟩)) (wanted_none rfl) (exec_field (off := 0) (d := 2) rfl rfl (by kernel_rfl)) ?_
          simp only [Act.put, List.setIfInBounds_toArray, List.set_cons_zero, List.set_cons_succ]
          refine wpList_run (v := .slice (some ⟨bn, on, none⟩) 64 cn) (wanted_none rfl) (exec_load1 rfl rfl (by kernel_rfl) (by rw [← HUN.out]; exact HBVr.out.cell 2)) ?_
          simp only [Act.put, List.setIfInBounds_toArray, List.set_cons_zero, List.set_cons_succ]
          refine wpList_run (v := .int .i64 (j : Int)) (wanted_none rfl) (exec_move rfl rfl) ?_
          simp only [Act.put, List.setIfInBounds_toArray, List.set_cons_zero, List.set_cons_succ]
          refine wpList_run (v := .pointer (some ⟨bn, on + j * 1, none⟩)) (wanted_none rfl) (gx_iaddr (i := j) (sz := 1) rfl rfl rfl Try.underlying36 size_byteR HJL.out rfl) ?_
          simp only [Act.put, List.setIfInBounds_toArray, List.set_cons_zero, List.set_cons_succ]
          refine wpList_run (v := .int .u8 ((y.1.2.2.1.getD j 0).toNat : Int)) (wanted_none rfl) (exec_u8 rfl rfl HCN.out) ?_
          simp only [Act.put, List.setIfInBounds_toArray, List.set_cons_zero, List.set_cons_succ]
          refine wpList_run (v := .pointer (some ⟨gb, 0 + j * 1, none⟩)) (wanted_none rfl) (gx_iaddr (i := j) (sz := 1) rfl rfl rfl Try.underlying36 size_byteR HJL.out rfl) ?_
          simp only [Act.put, List.setIfInBounds_toArray, List.set_cons_zero, List.set_cons_succ]
          refine wpList_storeU (0 + j * 1) (.int .u8 ((y.1.2.2.1.getD j 0).toNat : Int)) (wanted_none rfl) 5 _ _ rfl HCB.out rfl rfl (by have := HJL.out; have := HCBS.out; omega) ⟨rfl, rfl⟩ (by kernel_rfl) ?_
          intro w6 hb6 ht6
          simp only [Act.put, List.setIfInBounds_toArray, List.set_cons_zero, List.set_cons_succ]
          have hb6' : Blk w6 gb 5 (curb.setIfInBounds j (.int .u8 ((y.1.2.2.1.getD j 0).toNat : Int))) := by rw [show 0 + j * 1 = j by omega] at hb6; exact hb6
          have HO6 := Lib.hid (show Orw w6 0 5 1 (.slice (some ⟨gb, 0, none⟩) 64 cb) (row1 (bcs (mixB kq old y.1.2.2 (j + 1)))) from by
            rw [mixB_put kq (by rw [HKQ.out]; exact HQ4.out) old y.1.2.2 HJL.out HBI.out, ← bcs_setI]
            refine orw_set HOX.out HCB.out hb6' (by simp) HJL.out rfl (fun x hx => ?_) (fun m => ?_) (by decide)
            · have hx : x ∈ [Value.int .u8 ((y.1.2.2.1.getD j 0).toNat : Int)] := hx
              rw [List.mem_singleton.1 hx]
              rfl
            · rw [Array.getElem?_setIfInBounds]
              by_cases hjm : j = m
              · subst hjm
                rw [if_pos rfl, if_pos (by have := HCBS.out; have := HJL.out; omega), if_pos (by omega), show j - j * 1 = 0 by omega]
                rfl
              · rw [if_neg hjm, if_neg (by omega)])
          have HT6 := Lib.hid (HTR2.out.trans ht6 fun _ _ e => e)
          clear hb6 hb6' ht6
          go_upto_region 10 with fail
          refine wp_region_lit ?_
          refine wpList_run (v := .int .i64 (j : Int)) (wanted_none rfl) (exec_move rfl rfl) ?_
          simp only [Act.put, List.setIfInBounds_toArray, List.set_cons_zero, List.set_cons_succ]
          refine wpList_run (v := .int .i64 ((j + 1 : Nat) : Int)) (wanted_none rfl) (ix_add rfl rfl rfl (by omega) (by omega)) ?_
          simp only [Act.put, List.setIfInBounds_toArray, List.set_cons_zero, List.set_cons_succ]
          refine wpList_run (v := .int .i64 ((j + 1 : Nat) : Int)) (wanted_none rfl) (gx_assign rfl rfl) ?_
          simp only [Act.put, List.setIfInBounds_toArray, List.set_cons_zero, List.set_cons_succ]
          go_wp2_with fail
          go_roundg (64 - (j + 1))
          case measure => have := HGK2.out; have := HJL.out; omega
          case rel => exact ⟨j + 1, rfl, by have := HJL.out; omega, HO6.out, HT6.out⟩
        · have HQ := Lib.hid hq
          have HKQ2 := Lib.hid (show kq = 3 from HKQ.out.trans hq)
          have HBI := Lib.hid (show bits1 kq j = false from by rw [HKQ2.out]; unfold bits1; simp [H32.out])
          clear hq
          go_upto_region 12 with fail
          refine wp_region_lit ?_
          refine wpList_run (v := .int .i64 kv) (wanted_none rfl) (exec_move rfl rfl) ?_
          simp only [Act.put, List.setIfInBounds_toArray, List.set_cons_zero, List.set_cons_succ]
          refine wpList_run (v := .int .i64 3) (wanted_none rfl) (ix_and3 rfl rfl rfl HQ.out) ?_
          simp only [Act.put, List.setIfInBounds_toArray, List.set_cons_zero, List.set_cons_succ]
          refine wpList_run (v := .bool false) (wanted_none rfl) (ix_eql rfl rfl rfl (by decide)) ?_
          simp only [Act.put, List.setIfInBounds_toArray, List.set_cons_zero, List.set_cons_succ]
          refine wpList_run (v := .bool false) (wanted_none rfl) (exec_move rfl rfl) ?_
          simp only [Act.put, List.setIfInBounds_toArray, List.set_cons_zero, List.set_cons_succ]
          refine wpList_run (v := .int .i64 kv) rfl (exec_move rfl rfl) ?_
          simp only [Act.put, List.setIfInBounds_toArray, List.set_cons_zero, List.set_cons_succ]
          refine wpList_run (v := .int .i64 3) rfl (ix_and3 rfl rfl rfl HQ.out) ?_
          simp only [Act.put, List.setIfInBounds_toArray, List.set_cons_zero, List.set_cons_succ]
          refine wpList_run (v := .bool false) rfl (ix_eql rfl rfl rfl (by decide)) ?_
          simp only [Act.put, List.setIfInBounds_toArray, List.set_cons_zero, List.set_cons_succ]
          refine wpList_run (v := .bool false) rfl (exec_move rfl rfl) ?_
          simp only [Act.put, List.setIfInBounds_toArray, List.set_cons_zero, List.set_cons_succ]
          refine wpList_skip (by go_simp) ?_
          simp only [Act.put, List.setIfInBounds_toArray, List.set_cons_zero, List.set_cons_succ]
          refine wpList_run (v := .bool false) rfl (ix_pickF rfl rfl rfl) ?_
          simp only [Act.put, List.setIfInBounds_toArray, List.set_cons_zero, List.set_cons_succ]
          refine wpList_run (v := .bool false) (wanted_none rfl) (ix_pickF rfl rfl rfl) ?_
          simp only [Act.put, List.setIfInBounds_toArray, List.set_cons_zero, List.set_cons_succ]
          refine wpList_run (v := .bool false) (wanted_none rfl) (exec_move rfl rfl) ?_
          simp only [Act.put, List.setIfInBounds_toArray, List.set_cons_zero, List.set_cons_succ]
          refine wpList_run (v := .int .i64 kv) rfl (exec_move rfl rfl) ?_
          simp only [Act.put, List.setIfInBounds_toArray, List.set_cons_zero, List.set_cons_succ]
          refine wpList_run (v := .int .i64 3) rfl (ix_and3 rfl rfl rfl HQ.out) ?_
          simp only [Act.put, List.setIfInBounds_toArray, List.set_cons_zero, List.set_cons_succ]
          refine wpList_run (v := .bool true) rfl (ix_eql rfl rfl rfl (by decide)) ?_
          simp only [Act.put, List.setIfInBounds_toArray, List.set_cons_zero, List.set_cons_succ]
          refine wpList_run (v := .bool true) rfl (exec_move rfl rfl) ?_
          simp only [Act.put, List.setIfInBounds_toArray, List.set_cons_zero, List.set_cons_succ]
          refine wpList_run (v := .bool true) rfl (exec_move rfl rfl) ?_
          simp only [Act.put, List.setIfInBounds_toArray, List.set_cons_zero, List.set_cons_succ]
          refine wpList_run (v := .bool false) rfl (ix_not (b := true) rfl rfl) ?_
          simp only [Act.put, List.setIfInBounds_toArray, List.set_cons_zero, List.set_cons_succ]
          refine wpList_run (v := .bool false) rfl (ix_pickT rfl rfl rfl) ?_
          simp only [Act.put, List.setIfInBounds_toArray, List.set_cons_zero, List.set_cons_succ]
          refine wpList_run (v := .bool false) (wanted_none rfl) (ix_pickF rfl rfl rfl) ?_
          simp only [Act.put, List.setIfInBounds_toArray, List.set_cons_zero, List.set_cons_succ]
          have HO6 := Lib.hid (show Orw wr 0 5 1 (.slice (some ⟨gb, 0, none⟩) 64 cb) (row1 (bcs (mixB kq old y.1.2.2 (j + 1)))) from by
            rw [mixB_keep kq (by rw [HKQ.out]; exact HQ4.out) old y.1.2.2 HJL.out HBI.out]
            exact HOX.out)
          go_upto_region 10 with fail
          refine wp_region_lit ?_
          refine wpList_run (v := .int .i64 (j : Int)) (wanted_none rfl) (exec_move rfl rfl) ?_
          simp only [Act.put, List.setIfInBounds_toArray, List.set_cons_zero, List.set_cons_succ]
          refine wpList_run (v := .int .i64 ((j + 1 : Nat) : Int)) (wanted_none rfl) (ix_add rfl rfl rfl (by omega) (by omega)) ?_
          simp only [Act.put, List.setIfInBounds_toArray, List.set_cons_zero, List.set_cons_succ]
          refine wpList_run (v := .int .i64 ((j + 1 : Nat) : Int)) (wanted_none rfl) (gx_assign rfl rfl) ?_
          simp only [Act.put, List.setIfInBounds_toArray, List.set_cons_zero, List.set_cons_succ]
          go_wp2_with fail
          go_roundg (64 - (j + 1))
          case measure => have := HGK2.out; have := HJL.out; omega
          case rel => exact ⟨j + 1, rfl, by have := HJL.out; omega, HO6.out, HTR2.out⟩
      · have H32 := Lib.hid h32
        have y7 : ¬ (j : Int) < 32 := by omega
        clear h32
        go_upto_region 11 with fail
        refine wp_region_lit ?_
        refine wpList_run (v := .int .i64 (j : Int)) (wanted_none rfl) (exec_move rfl rfl) ?_
        simp only [Act.put, List.setIfInBounds_toArray, List.set_cons_zero, List.set_cons_succ]
        refine wpList_run (v := .bool false) (wanted_none rfl) (ix_lss rfl rfl rfl (decide_eq_false y7)) ?_
        simp only [Act.put, List.setIfInBounds_toArray, List.set_cons_zero, List.set_cons_succ]
        refine wpList_run (v := .bool false) (wanted_none rfl) (gx_assign rfl rfl) ?_
        simp only [Act.put, List.setIfInBounds_toArray, List.set_cons_zero, List.set_cons_succ]
        rcases HQ4.out with hq | hq | hq | hq
        · have HQ := Lib.hid hq
          have HKQ2 := Lib.hid (show kq = 0 from HKQ.out.trans hq)
          have HBI := Lib.hid (show bits1 kq j = false from by rw [HKQ2.out]; unfold bits1; simp)
          clear hq
          go_upto_region 12 with fail
          refine wp_region_lit ?_
          refine wpList_run (v := .int .i64 kv) (wanted_none rfl) (exec_move rfl rfl) ?_
          simp only [Act.put, List.setIfInBounds_toArray, List.set_cons_zero, List.set_cons_succ]
          refine wpList_run (v := .int .i64 0) (wanted_none rfl) (ix_and3 rfl rfl rfl HQ.out) ?_
          simp only [Act.put, List.setIfInBounds_toArray, List.set_cons_zero, List.set_cons_succ]
          refine wpList_run (v := .bool false) (wanted_none rfl) (ix_eql rfl rfl rfl (by decide)) ?_
          simp only [Act.put, List.setIfInBounds_toArray, List.set_cons_zero, List.set_cons_succ]
          refine wpList_run (v := .bool false) (wanted_none rfl) (exec_move rfl rfl) ?_
          simp only [Act.put, List.setIfInBounds_toArray, List.set_cons_zero, List.set_cons_succ]
          refine wpList_run (v := .int .i64 kv) rfl (exec_move rfl rfl) ?_
          simp only [Act.put, List.setIfInBounds_toArray, List.set_cons_zero, List.set_cons_succ]
          refine wpList_run (v := .int .i64 0) rfl (ix_and3 rfl rfl rfl HQ.out) ?_
          simp only [Act.put, List.setIfInBounds_toArray, List.set_cons_zero, List.set_cons_succ]
          refine wpList_run (v := .bool false) rfl (ix_eql rfl rfl rfl (by decide)) ?_
          simp only [Act.put, List.setIfInBounds_toArray, List.set_cons_zero, List.set_cons_succ]
          refine wpList_run (v := .bool false) rfl (exec_move rfl rfl) ?_
          simp only [Act.put, List.setIfInBounds_toArray, List.set_cons_zero, List.set_cons_succ]
          refine wpList_skip (by go_simp) ?_
          simp only [Act.put, List.setIfInBounds_toArray, List.set_cons_zero, List.set_cons_succ]
          refine wpList_run (v := .bool false) rfl (ix_pickF rfl rfl rfl) ?_
          simp only [Act.put, List.setIfInBounds_toArray, List.set_cons_zero, List.set_cons_succ]
          refine wpList_run (v := .bool false) (wanted_none rfl) (ix_pickF rfl rfl rfl) ?_
          simp only [Act.put, List.setIfInBounds_toArray, List.set_cons_zero, List.set_cons_succ]
          refine wpList_run (v := .bool false) (wanted_none rfl) (exec_move rfl rfl) ?_
          simp only [Act.put, List.setIfInBounds_toArray, List.set_cons_zero, List.set_cons_succ]
          refine wpList_run (v := .int .i64 kv) rfl (exec_move rfl rfl) ?_
          simp only [Act.put, List.setIfInBounds_toArray, List.set_cons_zero, List.set_cons_succ]
          refine wpList_run (v := .int .i64 0) rfl (ix_and3 rfl rfl rfl HQ.out) ?_
          simp only [Act.put, List.setIfInBounds_toArray, List.set_cons_zero, List.set_cons_succ]
          refine wpList_run (v := .bool false) rfl (ix_eql rfl rfl rfl (by decide)) ?_
          simp only [Act.put, List.setIfInBounds_toArray, List.set_cons_zero, List.set_cons_succ]
          refine wpList_run (v := .bool false) rfl (exec_move rfl rfl) ?_
          simp only [Act.put, List.setIfInBounds_toArray, List.set_cons_zero, List.set_cons_succ]
          refine wpList_skip (by go_simp) ?_
          simp only [Act.put, List.setIfInBounds_toArray, List.set_cons_zero, List.set_cons_succ]
          refine wpList_skip (by go_simp) ?_
          simp only [Act.put, List.setIfInBounds_toArray, List.set_cons_zero, List.set_cons_succ]
          refine wpList_run (v := .bool false) rfl (ix_pickF rfl rfl rfl) ?_
          simp only [Act.put, List.setIfInBounds_toArray, List.set_cons_zero, List.set_cons_succ]
          refine wpList_run (v := .bool false) (wanted_none rfl) (ix_pickF rfl rfl rfl) ?_
          simp only [Act.put, List.setIfInBounds_toArray, List.set_cons_zero, List.set_cons_succ]
          have HO6 := Lib.hid (show Orw wr 0 5 1 (.slice (some ⟨gb, 0, none⟩) 64 cb) (row1 (bcs (mixB kq old y.1.2.2 (j + 1)))) from by
            rw [mixB_keep kq (by rw [HKQ.out]; exact HQ4.out) old y.1.2.2 HJL.out HBI.out]
            exact HOX.out)
          go_upto_region 10 with fail
          refine wp_region_lit ?_
          refine wpList_run (v := .int .i64 (j : Int)) (wanted_none rfl) (exec_move rfl rfl) ?_
          simp only [Act.put, List.setIfInBounds_toArray, List.set_cons_zero, List.set_cons_succ]
          refine wpList_run (v := .int .i64 ((j + 1 : Nat) : Int)) (wanted_none rfl) (ix_add rfl rfl rfl (by omega) (by omega)) ?_
          simp only [Act.put, List.setIfInBounds_toArray, List.set_cons_zero, List.set_cons_succ]
          refine wpList_run (v := .int .i64 ((j + 1 : Nat) : Int)) (wanted_none rfl) (gx_assign rfl rfl) ?_
          simp only [Act.put, List.setIfInBounds_toArray, List.set_cons_zero, List.set_cons_succ]
          go_wp2_with fail
          go_roundg (64 - (j + 1))
          case measure => have := HGK2.out; have := HJL.out; omega
          case rel => exact ⟨j + 1, rfl, by have := HJL.out; omega, HO6.out, HTR2.out⟩
        · have HQ := Lib.hid hq
          have HKQ2 := Lib.hid (show kq = 1 from HKQ.out.trans hq)
          have HBI := Lib.hid (show bits1 kq j = true from by rw [HKQ2.out]; unfold bits1; simp)
          clear hq
          go_upto_region 12 with fail
          first
          | (rename_i K9 hK9; have HKC := Lib.hid hK9; clear hK9)
          | (rename_i K9 hK9 K8; have HKC := Lib.hid hK9; clear hK9)
          refine wp_region_lit ?_
          refine wpList_run (v := .int .i64 kv) (wanted_none rfl) (exec_move rfl rfl) ?_
          simp only [Act.put, List.setIfInBounds_toArray, List.set_cons_zero, List.set_cons_succ]
          refine wpList_run (v := .int .i64 1) (wanted_none rfl) (ix_and3 rfl rfl rfl HQ.out) ?_
          simp only [Act.put, List.setIfInBounds_toArray, List.set_cons_zero, List.set_cons_succ]
          refine wpList_run (v := .bool true) (wanted_none rfl) (ix_eql rfl rfl rfl (by decide)) ?_
          simp only [Act.put, List.setIfInBounds_toArray, List.set_cons_zero, List.set_cons_succ]
          go_wp2_with fail
          refine HKC.out _ _ ?_
          clear HKC
          go_upto_region 13 with fail
          refine wp_region_lit ?_
          refine wpList_run (v := .slice (some ⟨gb, 0, none⟩) 64 cb) (wanted_none rfl) (exec_move rfl rfl) ?_
          simp only [Act.put, List.setIfInBounds_toArray, List.set_cons_zero, List.set_cons_succ]
          refine wpList_run (v := .int .i64 (j : Int)) (wanted_none rfl) (exec_move rfl rfl) ?_
          simp only [Act.put, List.setIfInBounds_toArray, List.set_cons_zero, List.set_cons_succ]
          refine wpList_run (v := .pointer (some ⟨gv, 2, none⟩)) (wanted_none rfl) (exec_field (off := 0) (d := 2) rfl rfl (by kernel_rfl)) ?_
          simp only [Act.put, List.setIfInBounds_toArray, List.set_cons_zero, List.set_cons_succ]
          refine wpList_run (v := .slice (some ⟨bn, on, none⟩) 64 cn) (wanted_none rfl) (exec_load1 rfl rfl (by kernel_rfl) (by rw [← HUN.out]; exact HBVr.out.cell 2)) ?_
          simp only [Act.put, List.setIfInBounds_toArray, List.set_cons_zero, List.set_cons_succ]
          refine wpList_run (v := .int .i64 (j : Int)) (wanted_none rfl) (exec_move rfl rfl) ?_
          simp only [Act.put, List.setIfInBounds_toArray, List.set_cons_zero, List.set_cons_succ]
          refine wpList_run (v := .pointer (some ⟨bn, on + j * 1, none⟩)) (wanted_none rfl) (gx_iaddr (i := j) (sz := 1) rfl rfl rfl Try.underlying36 size_byteR HJL.out rfl) ?_
          simp only [Act.put, List.setIfInBounds_toArray, List.set_cons_zero, List.set_cons_succ]
          refine wpList_run (v := .int .u8 ((y.1.2.2.1.getD j 0).toNat : Int)) (wanted_none rfl) (exec_u8 rfl rfl HCN.out) ?_
          simp only [Act.put, List.setIfInBounds_toArray, List.set_cons_zero, List.set_cons_succ]
          refine wpList_run (v := .pointer (some ⟨gb, 0 + j * 1, none⟩)) (wanted_none rfl) (gx_iaddr (i := j) (sz := 1) rfl rfl rfl Try.underlying36 size_byteR HJL.out rfl) ?_
          simp only [Act.put, List.setIfInBounds_toArray, List.set_cons_zero, List.set_cons_succ]
          refine wpList_storeU (0 + j * 1) (.int .u8 ((y.1.2.2.1.getD j 0).toNat : Int)) (wanted_none rfl) 5 _ _ rfl HCB.out rfl rfl (by have := HJL.out; have := HCBS.out; omega) ⟨rfl, rfl⟩ (by kernel_rfl) ?_
          intro w6 hb6 ht6
          simp only [Act.put, List.setIfInBounds_toArray, List.set_cons_zero, List.set_cons_succ]
          have hb6' : Blk w6 gb 5 (curb.setIfInBounds j (.int .u8 ((y.1.2.2.1.getD j 0).toNat : Int))) := by rw [show 0 + j * 1 = j by omega] at hb6; exact hb6
          have HO6 := Lib.hid (show Orw w6 0 5 1 (.slice (some ⟨gb, 0, none⟩) 64 cb) (row1 (bcs (mixB kq old y.1.2.2 (j + 1)))) from by
            rw [mixB_put kq (by rw [HKQ.out]; exact HQ4.out) old y.1.2.2 HJL.out HBI.out, ← bcs_setI]
            refine orw_set HOX.out HCB.out hb6' (by simp) HJL.out rfl (fun x hx => ?_) (fun m => ?_) (by decide)
            · have hx : x ∈ [Value.int .u8 ((y.1.2.2.1.getD j 0).toNat : Int)] := hx
              rw [List.mem_singleton.1 hx]
              rfl
            · rw [Array.getElem?_setIfInBounds]
              by_cases hjm : j = m
              · subst hjm
                rw [if_pos rfl, if_pos (by have := HCBS.out; have := HJL.out; omega), if_pos (by omega), show j - j * 1 = 0 by omega]
                rfl
              · rw [if_neg hjm, if_neg (by omega)])
          have HT6 := Lib.hid (HTR2.out.trans ht6 fun _ _ e => e)
          clear hb6 hb6' ht6
          go_upto_region 10 with fail
          refine wp_region_lit ?_
          refine wpList_run (v := .int .i64 (j : Int)) (wanted_none rfl) (exec_move rfl rfl) ?_
          simp only [Act.put, List.setIfInBounds_toArray, List.set_cons_zero, List.set_cons_succ]
          refine wpList_run (v := .int .i64 ((j + 1 : Nat) : Int)) (wanted_none rfl) (ix_add rfl rfl rfl (by omega) (by omega)) ?_
          simp only [Act.put, List.setIfInBounds_toArray, List.set_cons_zero, List.set_cons_succ]
          refine wpList_run (v := .int .i64 ((j + 1 : Nat) : Int)) (wanted_none rfl) (gx_assign rfl rfl) ?_
          simp only [Act.put, List.setIfInBounds_toArray, List.set_cons_zero, List.set_cons_succ]
          go_wp2_with fail
          go_roundg (64 - (j + 1))
          case measure => have := HGK2.out; have := HJL.out; omega
          case rel => exact ⟨j + 1, rfl, by have := HJL.out; omega, HO6.out, HT6.out⟩
        · have HQ := Lib.hid hq
          have HKQ2 := Lib.hid (show kq = 2 from HKQ.out.trans hq)
          have HBI := Lib.hid (show bits1 kq j = false from by rw [HKQ2.out]; unfold bits1; simp [H32.out])
          clear hq
          go_upto_region 12 with fail
          refine wp_region_lit ?_
          refine wpList_run (v := .int .i64 kv) (wanted_none rfl) (exec_move rfl rfl) ?_
          simp only [Act.put, List.setIfInBounds_toArray, List.set_cons_zero, List.set_cons_succ]
          refine wpList_run (v := .int .i64 2) (wanted_none rfl) (ix_and3 rfl rfl rfl HQ.out) ?_
          simp only [Act.put, List.setIfInBounds_toArray, List.set_cons_zero, List.set_cons_succ]
          refine wpList_run (v := .bool false) (wanted_none rfl) (ix_eql rfl rfl rfl (by decide)) ?_
          simp only [Act.put, List.setIfInBounds_toArray, List.set_cons_zero, List.set_cons_succ]
          refine wpList_run (v := .bool false) (wanted_none rfl) (exec_move rfl rfl) ?_
          simp only [Act.put, List.setIfInBounds_toArray, List.set_cons_zero, List.set_cons_succ]
          refine wpList_run (v := .int .i64 kv) rfl (exec_move rfl rfl) ?_
          simp only [Act.put, List.setIfInBounds_toArray, List.set_cons_zero, List.set_cons_succ]
          refine wpList_run (v := .int .i64 2) rfl (ix_and3 rfl rfl rfl HQ.out) ?_
          simp only [Act.put, List.setIfInBounds_toArray, List.set_cons_zero, List.set_cons_succ]
          refine wpList_run (v := .bool true) rfl (ix_eql rfl rfl rfl (by decide)) ?_
          simp only [Act.put, List.setIfInBounds_toArray, List.set_cons_zero, List.set_cons_succ]
          refine wpList_run (v := .bool true) rfl (exec_move rfl rfl) ?_
          simp only [Act.put, List.setIfInBounds_toArray, List.set_cons_zero, List.set_cons_succ]
          refine wpList_run (v := .bool false) rfl (exec_move rfl rfl) ?_
          simp only [Act.put, List.setIfInBounds_toArray, List.set_cons_zero, List.set_cons_succ]
          refine wpList_run (v := .bool false) rfl (ix_pickT rfl rfl rfl) ?_
          simp only [Act.put, List.setIfInBounds_toArray, List.set_cons_zero, List.set_cons_succ]
          refine wpList_run (v := .bool false) (wanted_none rfl) (ix_pickF rfl rfl rfl) ?_
          simp only [Act.put, List.setIfInBounds_toArray, List.set_cons_zero, List.set_cons_succ]
          refine wpList_run (v := .bool false) (wanted_none rfl) (exec_move rfl rfl) ?_
          simp only [Act.put, List.setIfInBounds_toArray, List.set_cons_zero, List.set_cons_succ]
          refine wpList_run (v := .int .i64 kv) rfl (exec_move rfl rfl) ?_
          simp only [Act.put, List.setIfInBounds_toArray, List.set_cons_zero, List.set_cons_succ]
          refine wpList_run (v := .int .i64 2) rfl (ix_and3 rfl rfl rfl HQ.out) ?_
          simp only [Act.put, List.setIfInBounds_toArray, List.set_cons_zero, List.set_cons_succ]
          refine wpList_run (v := .bool false) rfl (ix_eql rfl rfl rfl (by decide)) ?_
          simp only [Act.put, List.setIfInBounds_toArray, List.set_cons_zero, List.set_cons_succ]
          refine wpList_run (v := .bool false) rfl (exec_move rfl rfl) ?_
          simp only [Act.put, List.setIfInBounds_toArray, List.set_cons_zero, List.set_cons_succ]
          refine wpList_skip (by go_simp) ?_
          simp only [Act.put, List.setIfInBounds_toArray, List.set_cons_zero, List.set_cons_succ]
          refine wpList_skip (by go_simp) ?_
          simp only [Act.put, List.setIfInBounds_toArray, List.set_cons_zero, List.set_cons_succ]
          refine wpList_run (v := .bool false) rfl (ix_pickF rfl rfl rfl) ?_
          simp only [Act.put, List.setIfInBounds_toArray, List.set_cons_zero, List.set_cons_succ]
          refine wpList_run (v := .bool false) (wanted_none rfl) (ix_pickF rfl rfl rfl) ?_
          simp only [Act.put, List.setIfInBounds_toArray, List.set_cons_zero, List.set_cons_succ]
          have HO6 := Lib.hid (show Orw wr 0 5 1 (.slice (some ⟨gb, 0, none⟩) 64 cb) (row1 (bcs (mixB kq old y.1.2.2 (j + 1)))) from by
            rw [mixB_keep kq (by rw [HKQ.out]; exact HQ4.out) old y.1.2.2 HJL.out HBI.out]
            exact HOX.out)
          go_upto_region 10 with fail
          refine wp_region_lit ?_
          refine wpList_run (v := .int .i64 (j : Int)) (wanted_none rfl) (exec_move rfl rfl) ?_
          simp only [Act.put, List.setIfInBounds_toArray, List.set_cons_zero, List.set_cons_succ]
          refine wpList_run (v := .int .i64 ((j + 1 : Nat) : Int)) (wanted_none rfl) (ix_add rfl rfl rfl (by omega) (by omega)) ?_
          simp only [Act.put, List.setIfInBounds_toArray, List.set_cons_zero, List.set_cons_succ]
          refine wpList_run (v := .int .i64 ((j + 1 : Nat) : Int)) (wanted_none rfl) (gx_assign rfl rfl) ?_
          simp only [Act.put, List.setIfInBounds_toArray, List.set_cons_zero, List.set_cons_succ]
          go_wp2_with fail
          go_roundg (64 - (j + 1))
          case measure => have := HGK2.out; have := HJL.out; omega
          case rel => exact ⟨j + 1, rfl, by have := HJL.out; omega, HO6.out, HTR2.out⟩
        · have HQ := Lib.hid hq
          have HKQ2 := Lib.hid (show kq = 3 from HKQ.out.trans hq)
          have HBI := Lib.hid (show bits1 kq j = true from by rw [HKQ2.out]; unfold bits1; simp [H32.out])
          clear hq
          go_upto_region 12 with fail
          refine wp_region_lit ?_
          refine wpList_run (v := .int .i64 kv) (wanted_none rfl) (exec_move rfl rfl) ?_
          simp only [Act.put, List.setIfInBounds_toArray, List.set_cons_zero, List.set_cons_succ]
          refine wpList_run (v := .int .i64 3) (wanted_none rfl) (ix_and3 rfl rfl rfl HQ.out) ?_
          simp only [Act.put, List.setIfInBounds_toArray, List.set_cons_zero, List.set_cons_succ]
          refine wpList_run (v := .bool false) (wanted_none rfl) (ix_eql rfl rfl rfl (by decide)) ?_
          simp only [Act.put, List.setIfInBounds_toArray, List.set_cons_zero, List.set_cons_succ]
          refine wpList_run (v := .bool false) (wanted_none rfl) (exec_move rfl rfl) ?_
          simp only [Act.put, List.setIfInBounds_toArray, List.set_cons_zero, List.set_cons_succ]
          refine wpList_run (v := .int .i64 kv) rfl (exec_move rfl rfl) ?_
          simp only [Act.put, List.setIfInBounds_toArray, List.set_cons_zero, List.set_cons_succ]
          refine wpList_run (v := .int .i64 3) rfl (ix_and3 rfl rfl rfl HQ.out) ?_
          simp only [Act.put, List.setIfInBounds_toArray, List.set_cons_zero, List.set_cons_succ]
          refine wpList_run (v := .bool false) rfl (ix_eql rfl rfl rfl (by decide)) ?_
          simp only [Act.put, List.setIfInBounds_toArray, List.set_cons_zero, List.set_cons_succ]
          refine wpList_run (v := .bool false) rfl (exec_move rfl rfl) ?_
          simp only [Act.put, List.setIfInBounds_toArray, List.set_cons_zero, List.set_cons_succ]
          refine wpList_skip (by go_simp) ?_
          simp only [Act.put, List.setIfInBounds_toArray, List.set_cons_zero, List.set_cons_succ]
          refine wpList_run (v := .bool false) rfl (ix_pickF rfl rfl rfl) ?_
          simp only [Act.put, List.setIfInBounds_toArray, List.set_cons_zero, List.set_cons_succ]
          refine wpList_run (v := .bool false) (wanted_none rfl) (ix_pickF rfl rfl rfl) ?_
          simp only [Act.put, List.setIfInBounds_toArray, List.set_cons_zero, List.set_cons_succ]
          refine wpList_run (v := .bool false) (wanted_none rfl) (exec_move rfl rfl) ?_
          simp only [Act.put, List.setIfInBounds_toArray, List.set_cons_zero, List.set_cons_succ]
          refine wpList_run (v := .int .i64 kv) rfl (exec_move rfl rfl) ?_
          simp only [Act.put, List.setIfInBounds_toArray, List.set_cons_zero, List.set_cons_succ]
          refine wpList_run (v := .int .i64 3) rfl (ix_and3 rfl rfl rfl HQ.out) ?_
          simp only [Act.put, List.setIfInBounds_toArray, List.set_cons_zero, List.set_cons_succ]
          refine wpList_run (v := .bool true) rfl (ix_eql rfl rfl rfl (by decide)) ?_
          simp only [Act.put, List.setIfInBounds_toArray, List.set_cons_zero, List.set_cons_succ]
          refine wpList_run (v := .bool true) rfl (exec_move rfl rfl) ?_
          simp only [Act.put, List.setIfInBounds_toArray, List.set_cons_zero, List.set_cons_succ]
          refine wpList_run (v := .bool false) rfl (exec_move rfl rfl) ?_
          simp only [Act.put, List.setIfInBounds_toArray, List.set_cons_zero, List.set_cons_succ]
          refine wpList_run (v := .bool true) rfl (ix_not (b := false) rfl rfl) ?_
          simp only [Act.put, List.setIfInBounds_toArray, List.set_cons_zero, List.set_cons_succ]
          refine wpList_run (v := .bool true) rfl (ix_pickT rfl rfl rfl) ?_
          simp only [Act.put, List.setIfInBounds_toArray, List.set_cons_zero, List.set_cons_succ]
          refine wpList_run (v := .bool true) (wanted_none rfl) (ix_pickF rfl rfl rfl) ?_
          simp only [Act.put, List.setIfInBounds_toArray, List.set_cons_zero, List.set_cons_succ]
          go_upto_region 13 with fail
          refine wp_region_lit ?_
          refine wpList_run (v := .slice (some ⟨gb, 0, none⟩) 64 cb) (wanted_none rfl) (exec_move rfl rfl) ?_
          simp only [Act.put, List.setIfInBounds_toArray, List.set_cons_zero, List.set_cons_succ]
          refine wpList_run (v := .int .i64 (j : Int)) (wanted_none rfl) (exec_move rfl rfl) ?_
          simp only [Act.put, List.setIfInBounds_toArray, List.set_cons_zero, List.set_cons_succ]
          refine wpList_run (v := .pointer (some ⟨gv, 2, none⟩)) (wanted_none rfl) (exec_field (off := 0) (d := 2) rfl rfl (by kernel_rfl)) ?_
          simp only [Act.put, List.setIfInBounds_toArray, List.set_cons_zero, List.set_cons_succ]
          refine wpList_run (v := .slice (some ⟨bn, on, none⟩) 64 cn) (wanted_none rfl) (exec_load1 rfl rfl (by kernel_rfl) (by rw [← HUN.out]; exact HBVr.out.cell 2)) ?_
          simp only [Act.put, List.setIfInBounds_toArray, List.set_cons_zero, List.set_cons_succ]
          refine wpList_run (v := .int .i64 (j : Int)) (wanted_none rfl) (exec_move rfl rfl) ?_
          simp only [Act.put, List.setIfInBounds_toArray, List.set_cons_zero, List.set_cons_succ]
          refine wpList_run (v := .pointer (some ⟨bn, on + j * 1, none⟩)) (wanted_none rfl) (gx_iaddr (i := j) (sz := 1) rfl rfl rfl Try.underlying36 size_byteR HJL.out rfl) ?_
          simp only [Act.put, List.setIfInBounds_toArray, List.set_cons_zero, List.set_cons_succ]
          refine wpList_run (v := .int .u8 ((y.1.2.2.1.getD j 0).toNat : Int)) (wanted_none rfl) (exec_u8 rfl rfl HCN.out) ?_
          simp only [Act.put, List.setIfInBounds_toArray, List.set_cons_zero, List.set_cons_succ]
          refine wpList_run (v := .pointer (some ⟨gb, 0 + j * 1, none⟩)) (wanted_none rfl) (gx_iaddr (i := j) (sz := 1) rfl rfl rfl Try.underlying36 size_byteR HJL.out rfl) ?_
          simp only [Act.put, List.setIfInBounds_toArray, List.set_cons_zero, List.set_cons_succ]
          refine wpList_storeU (0 + j * 1) (.int .u8 ((y.1.2.2.1.getD j 0).toNat : Int)) (wanted_none rfl) 5 _ _ rfl HCB.out rfl rfl (by have := HJL.out; have := HCBS.out; omega) ⟨rfl, rfl⟩ (by kernel_rfl) ?_
          intro w6 hb6 ht6
          simp only [Act.put, List.setIfInBounds_toArray, List.set_cons_zero, List.set_cons_succ]
          have hb6' : Blk w6 gb 5 (curb.setIfInBounds j (.int .u8 ((y.1.2.2.1.getD j 0).toNat : Int))) := by rw [show 0 + j * 1 = j by omega] at hb6; exact hb6
          have HO6 := Lib.hid (show Orw w6 0 5 1 (.slice (some ⟨gb, 0, none⟩) 64 cb) (row1 (bcs (mixB kq old y.1.2.2 (j + 1)))) from by
            rw [mixB_put kq (by rw [HKQ.out]; exact HQ4.out) old y.1.2.2 HJL.out HBI.out, ← bcs_setI]
            refine orw_set HOX.out HCB.out hb6' (by simp) HJL.out rfl (fun x hx => ?_) (fun m => ?_) (by decide)
            · have hx : x ∈ [Value.int .u8 ((y.1.2.2.1.getD j 0).toNat : Int)] := hx
              rw [List.mem_singleton.1 hx]
              rfl
            · rw [Array.getElem?_setIfInBounds]
              by_cases hjm : j = m
              · subst hjm
                rw [if_pos rfl, if_pos (by have := HCBS.out; have := HJL.out; omega), if_pos (by omega), show j - j * 1 = 0 by omega]
                rfl
              · rw [if_neg hjm, if_neg (by omega)])
          have HT6 := Lib.hid (HTR2.out.trans ht6 fun _ _ e => e)
          clear hb6 hb6' ht6
          go_upto_region 10 with fail
          refine wp_region_lit ?_
          refine wpList_run (v := .int .i64 (j : Int)) (wanted_none rfl) (exec_move rfl rfl) ?_
          simp only [Act.put, List.setIfInBounds_toArray, List.set_cons_zero, List.set_cons_succ]
          refine wpList_run (v := .int .i64 ((j + 1 : Nat) : Int)) (wanted_none rfl) (ix_add rfl rfl rfl (by omega) (by omega)) ?_
          simp only [Act.put, List.setIfInBounds_toArray, List.set_cons_zero, List.set_cons_succ]
          refine wpList_run (v := .int .i64 ((j + 1 : Nat) : Int)) (wanted_none rfl) (gx_assign rfl rfl) ?_
          simp only [Act.put, List.setIfInBounds_toArray, List.set_cons_zero, List.set_cons_succ]
          go_wp2_with fail
          go_roundg (64 - (j + 1))
          case measure => have := HGK2.out; have := HJL.out; omega
          case rel => exact ⟨j + 1, rfl, by have := HJL.out; omega, HO6.out, HT6.out⟩
    · obtain rfl : j = 64 := by omega
      clear hjl
      generalize hwq : wr = w7 at *
      clear hwq
      go_upto_region 9 with fail
      refine wp_region_lit ?_
      refine wpList_run (v := .int .i64 (64 : Nat)) (wanted_none rfl) (exec_move rfl rfl) ?_
      simp only [Act.put, List.setIfInBounds_toArray, List.set_cons_zero, List.set_cons_succ]
      refine wpList_run (v := .bool false) (wanted_none rfl) (ix_lss rfl rfl rfl (decide_eq_false (by omega))) ?_
      simp only [Act.put, List.setIfInBounds_toArray, List.set_cons_zero, List.set_cons_succ]
      have HO7 := Lib.hid (show Orw w7 0 5 1 (.slice (some ⟨gb, 0, none⟩) 64 cb) (row1 (bcs (bootSec kq old y.1.2.2).1)) from by rw [← mixB_end]; exact HOX.out)
      obtain ⟨Z7, hZ7⟩ : ∃ Z7 : Nat → Prop, Z7 = fun b => Z' b ∨ b = gb := ⟨_, rfl⟩
      have hx7 := HX4.out.off HTR2.out (fun b hb e => by have h1 := HL0.out b ((HRG.out b).1 hb); have h2 := HGB.out.1; have h3 : b = gb := e; omega) (fun b hb _ e => by have h1 := HGB.out.2.1 b hb; have h3 : b = gb := e; omega)
      obtain ⟨cur7, hcur7, _⟩ := orw_block HO7.out
      have HX7 := Lib.hid (hx7.more Z7 (fun b hb => by rw [hZ7]; exact .inl hb) (fun b hb => by rw [hZ7] at hb; rcases hb with hb | rfl; exact hx7.zlt b hb; exact hcur7.lt))
      have HSE := Lib.hid (orw_secz (Z := Z7) HO7.out (by rw [hZ7]; exact .inr rfl))
      have HZ7 := Lib.hid (show ∀ b, Z7 b → Z b ∨ w.heap.size ≤ b from fun b hb => by rw [hZ7] at hb; rcases hb with hb | rfl; exact HZZ.out b hb; exact .inr HGB.out.1)
      have HT7 := Lib.hid (HT4.out.trans HTR2.out fun b hb e => by have h2 := HGB.out.1; have h3 : b = gb := e; omega)
      have HBV7 := Lib.hid (HBV4.out.turn HTR2.out fun e => by have h1 : gv = gb := e; have := HGB.out.2.2; omega)
      clear hx7 hcur7 hZ7
      obtain ⟨r, g, cg, cur, hr, hr1, hcell, hbg, hgs, hgg⟩ := HX7.out.hrow (i := y.1.1) (e := f) HFJ.out
      have HR_ := Lib.hid hr
      have HR1 := Lib.hid hr1
      have HGG := Lib.hid hgg
      have HGS := Lib.hid hgs
      obtain ⟨wd, hwd⟩ : ∃ v, v = w7.drew := ⟨_, rfl⟩
      have htd : Turn nowhere w7 wd := by rw [hwd]; exact (Turn.refl _ _).drew
      have HXD := Lib.hid (HX7.out.off htd (fun _ _ e => e) fun _ _ _ e => e)
      have HBGD := Lib.hid (hbg.turn htd fun e => e)
      have HTRD := Lib.hid (HT7.out.trans htd fun _ _ e => e.elim)
      have HSZD := Lib.hid (HSE.out.turn htd fun _ _ _ e => e)
      go_upto_region 14 with fail
      refine wp_region_till (fun W => Blk W q 49 (refCells (.slice A m c) (.slice (some ⟨hvb, 0, none⟩) m hc) (.slice (some ⟨bw, 0, none⟩) n cw) a.off a.burns a.left a.done) ∧ W.cell? ⟨hvb, 0 + y.1.1 * 1, none⟩ = some (.slice (some ⟨g, 0, none⟩) f.1 cg) ∧ Blk W gv 72 #[.int .i64 (y.1.1 : Int), .int .i64 (k : Int), y.2]) 12 (by kernel_rfl) ?_
      rw [← hwd]
      have hS0 : Blk wd q 49 (refCells (.slice A m c) (.slice (some ⟨hvb, 0, none⟩) m hc) (.slice (some ⟨bw, 0, none⟩) n cw) a.off a.burns a.left a.done) ∧ wd.cell? ⟨hvb, 0 + y.1.1 * 1, none⟩ = some (.slice (some ⟨g, 0, none⟩) f.1 cg) ∧ Blk wd gv 72 #[.int .i64 (y.1.1 : Int), .int .i64 (k : Int), y.2] := ⟨HXD.out.blk, (htd.cell (World.block_lt_of_cell? _ _ hcell) fun e => e).trans hcell, HBV7.out.turn htd fun e => e⟩
      clear hwd hr hr1 hcell hbg hgs hgg
      refine till_take (i := 0) (v := .pointer (some ⟨q, 0, none⟩)) rfl (by kernel_rfl) (by kernel_rfl) (fun _ _ _ h => h) (.inl ⟨by rfl, fun W hW => exec_move rfl rfl⟩) hS0 ?_
      simp only [Act.put, List.setIfInBounds_toArray, List.set_cons_zero, List.set_cons_succ]
      refine till_take (i := 1) (v := .pointer (some ⟨q, 0, none⟩)) rfl (by kernel_rfl) (by kernel_rfl) (fun _ _ _ h => h) (.inl ⟨by rfl, fun W hW => exec_nil rfl rfl⟩) hS0 ?_
      simp only [Act.put, List.setIfInBounds_toArray, List.set_cons_zero, List.set_cons_succ]
      refine till_take (i := 2) (v := .pointer (some ⟨q, 1, none⟩)) rfl (by kernel_rfl) (by kernel_rfl) (fun _ _ _ h => h) (.inl ⟨by rfl, fun W hW => exec_field (off := 0) (d := 1) rfl rfl (by kernel_rfl)⟩) hS0 ?_
      simp only [Act.put, List.setIfInBounds_toArray, List.set_cons_zero, List.set_cons_succ]
      refine till_take (i := 3) (v := .slice (some ⟨hvb, 0, none⟩) m hc) rfl (by kernel_rfl) (by kernel_rfl) (fun _ _ _ h => h) (.inl ⟨by rfl, fun W hW => exec_load1 rfl rfl (by kernel_rfl) (hW.1.cell 1)⟩) hS0 ?_
      simp only [Act.put, List.setIfInBounds_toArray, List.set_cons_zero, List.set_cons_succ]
      refine till_take (i := 4) (v := .pointer (some ⟨gv, 0, none⟩)) rfl (by kernel_rfl) (by kernel_rfl) (fun _ _ _ h => h) (.inl ⟨by rfl, fun W hW => exec_field (off := 0) (d := 0) rfl rfl (by kernel_rfl)⟩) hS0 ?_
      simp only [Act.put, List.setIfInBounds_toArray, List.set_cons_zero, List.set_cons_succ]
      refine till_take (i := 5) (v := .int .i64 (y.1.1 : Int)) rfl (by kernel_rfl) (by kernel_rfl) (fun _ _ _ h => h) (.inl ⟨by rfl, fun W hW => exec_load1 rfl rfl (by kernel_rfl) (hW.2.2.cell 0)⟩) hS0 ?_
      simp only [Act.put, List.setIfInBounds_toArray, List.set_cons_zero, List.set_cons_succ]
      refine till_take (i := 6) (v := .pointer (some ⟨hvb, 0 + y.1.1 * 1, none⟩)) rfl (by kernel_rfl) (by kernel_rfl) (fun _ _ _ h => h) (.inl ⟨by rfl, fun W hW => gx_iaddr (i := y.1.1) (sz := 1) rfl rfl rfl Try.underlying46 size_rowsR HDM.out rfl⟩) hS0 ?_
      simp only [Act.put, List.setIfInBounds_toArray, List.set_cons_zero, List.set_cons_succ]
      refine till_take (i := 7) (v := .slice (some ⟨g, 0, none⟩) f.1 cg) rfl (by kernel_rfl) (by kernel_rfl) (fun _ _ _ h => h) (.inl ⟨by rfl, fun W hW => exec_load1 rfl rfl (by kernel_rfl) hW.2.1⟩) hS0 ?_
      simp only [Act.put, List.setIfInBounds_toArray, List.set_cons_zero, List.set_cons_succ]
      refine till_take (i := 8) (v := .pointer (some ⟨gv, 1, none⟩)) rfl (by kernel_rfl) (by kernel_rfl) (fun _ _ _ h => h) (.inl ⟨by rfl, fun W hW => exec_field (off := 0) (d := 1) rfl rfl (by kernel_rfl)⟩) hS0 ?_
      simp only [Act.put, List.setIfInBounds_toArray, List.set_cons_zero, List.set_cons_succ]
      refine till_take (i := 9) (v := .int .i64 (k : Int)) rfl (by kernel_rfl) (by kernel_rfl) (fun _ _ _ h => h) (.inl ⟨by rfl, fun W hW => exec_load1 rfl rfl (by kernel_rfl) (hW.2.2.cell 1)⟩) hS0 ?_
      simp only [Act.put, List.setIfInBounds_toArray, List.set_cons_zero, List.set_cons_succ]
      refine till_take (i := 10) (v := .slice (some ⟨gb, 0, none⟩) 64 cb) rfl (by kernel_rfl) (by kernel_rfl) (fun _ _ _ h => h) (.inl ⟨by rfl, fun W hW => exec_move rfl rfl⟩) hS0 ?_
      simp only [Act.put, List.setIfInBounds_toArray, List.set_cons_zero, List.set_cons_succ]
      refine till_take (i := 11) (v := .pointer (some ⟨g, 0 + k * 1, none⟩)) rfl (by kernel_rfl) (by kernel_rfl) (fun _ _ _ h => h) (.inl ⟨by rfl, fun W hW => gx_iaddr (i := k) (sz := 1) rfl rfl rfl Try.underlying60 size_bsR HKE.out rfl⟩) hS0 ?_
      simp only [Act.put, List.setIfInBounds_toArray, List.set_cons_zero, List.set_cons_succ]
      refine till_tail 12 rfl (by kernel_rfl) ?_
      refine wpList_storeU (0 + k * 1) (.slice (some ⟨gb, 0, none⟩) 64 cb) (wanted_none rfl) 36 _ _ rfl HBGD.out rfl rfl (by have := HKE.out; have := HGS.out; omega) ⟨rfl, rfl⟩ size_bsR ?_
      intro w8 hb8 ht8
      simp only [Act.put, List.setIfInBounds_toArray, List.set_cons_zero, List.set_cons_succ]
      refine NoPanic.normal ?_
      clear hS0 htd
      have hb8' : Blk w8 g 36 (cur.setIfInBounds k (.slice (some ⟨gb, 0, none⟩) 64 cb)) := by rw [show 0 + k * 1 = k by omega] at hb8; exact hb8
      have hx8 := HXD.out.setSec (k := k) (s := bootSec kq old y.1.2.2) HFJ.out HR_.out HR1.out HBGD.out hb8' ht8 HKE.out HSZD.out
      have HX8 := Lib.hid (show RAtX w8 q Z7 { a with ds := bootR kf 0 (a.R.take (i + 1)) a.ds } (.slice A m c) (.slice (some ⟨hvb, 0, none⟩) m hc) (.slice (some ⟨bw, 0, none⟩) n cw) zs (rows'.set y.1.1 (r.1, r.2.set k (.slice (some ⟨gb, 0, none⟩) 64 cb))) ws from by
        have e9 : bootR kf 0 (a.R.take (i + 1)) a.ds = (bootR kf 0 (a.R.take i) a.ds).set y.1.1 (f.1, upd f.2 (k : Int) (bootSec kq old y.1.2.2)) := by
          rw [bootR_take kf a.R i 0 y.1 a.ds HYR.out]
          unfold bootD
          rw [HFJ.out]
          simp only
          rw [Nat.zero_add, show kf i = low2 kv from by rw [HKF.out, HKV.out], ← HKQ.out, ← HK.out, ← HOLD.out]
        rw [e9]
        exact hx8)
      have HRG8 := Lib.hid (show ∀ b, RG q (rows'.set y.1.1 (r.1, r.2.set k (.slice (some ⟨gb, 0, none⟩) 64 cb))) (.slice (some ⟨bw, 0, none⟩) n cw) b ↔ RG q rows (.slice (some ⟨bw, 0, none⟩) n cw) b from fun b => (rg_set HR_.out b).trans (HRG.out b))
      have HT8 := Lib.hid (HTRD.out.trans ht8 fun b _ e => (HRG.out b).1 (by rw [show b = g from e]; exact HGG.out))
      clear hb8 hb8' hx8 ht8
      go_upto_region 2 with fail
      refine wp_region_lit ?_
      refine wpList_run (v := .int .i64 (i : Int)) (wanted_none rfl) (exec_move rfl rfl) ?_
      simp only [Act.put, List.setIfInBounds_toArray, List.set_cons_zero, List.set_cons_succ]
      refine wpList_run (v := .int .i64 ((i + 1 : Nat) : Int)) (wanted_none rfl) (ix_add rfl rfl rfl (by omega) (by omega)) ?_
      simp only [Act.put, List.setIfInBounds_toArray, List.set_cons_zero, List.set_cons_succ]
      refine wpList_run (v := .int .i64 ((i + 1 : Nat) : Int)) (wanted_none rfl) (gx_assign rfl rfl) ?_
      simp only [Act.put, List.setIfInBounds_toArray, List.set_cons_zero, List.set_cons_succ]
      go_wp2_with fail
      go_roundg (n - (i + 1))
      case measure => have := HGK.out; have := HLT.out; omega
      case rel => exact ⟨i + 1, _, Z7, rfl, by have := HLT.out; omega, HX8.out, HRG8.out, HZ7.out, HT8.out⟩
  · obtain rfl : n = i := by have := HGK.out; omega
    clear hlt
    go_upto_region 1 with fail
    refine wp_region_lit ?_
    refine wpList_run (v := .int .i64 (n : Int)) (wanted_none rfl) (exec_move rfl rfl) ?_
    simp only [Act.put, List.setIfInBounds_toArray, List.set_cons_zero, List.set_cons_succ]
    refine wpList_run (v := .pointer (some ⟨q, 0, none⟩)) (wanted_none rfl) (exec_move rfl rfl) ?_
    simp only [Act.put, List.setIfInBounds_toArray, List.set_cons_zero, List.set_cons_succ]
    refine wpList_run (v := .pointer (some ⟨q, 0, none⟩)) (wanted_none rfl) (exec_nil rfl rfl) ?_
    simp only [Act.put, List.setIfInBounds_toArray, List.set_cons_zero, List.set_cons_succ]
    refine wpList_run (v := .pointer (some ⟨q, 2, none⟩)) (wanted_none rfl) (exec_field (off := 0) (d := 2) rfl rfl (by kernel_rfl)) ?_
    simp only [Act.put, List.setIfInBounds_toArray, List.set_cons_zero, List.set_cons_succ]
    refine wpList_run (v := .slice Aw n cw) (wanted_none rfl) (exec_load1 rfl rfl (by kernel_rfl) (HBR.out.cell 2)) ?_
    simp only [Act.put, List.setIfInBounds_toArray, List.set_cons_zero, List.set_cons_succ]
    refine wpList_run (v := .int .i64 (n : Int)) (wanted_none rfl) (gx_len rfl rfl Try.underlying47) ?_
    simp only [Act.put, List.setIfInBounds_toArray, List.set_cons_zero, List.set_cons_succ]
    refine wpList_run (v := .bool false) (wanted_none rfl) (ix_lss rfl rfl rfl (decide_eq_false (by omega))) ?_
    simp only [Act.put, List.setIfInBounds_toArray, List.set_cons_zero, List.set_cons_succ]
    go_upto_region 15 with fail
    refine wp_region_lit ?_
    refine wpList_run (v := .pointer (some ⟨q, 0, none⟩)) (wanted_none rfl) (exec_move rfl rfl) ?_
    simp only [Act.put, List.setIfInBounds_toArray, List.set_cons_zero, List.set_cons_succ]
    refine wpList_run (v := .pointer (some ⟨q, 0, none⟩)) (wanted_none rfl) (exec_nil rfl rfl) ?_
    simp only [Act.put, List.setIfInBounds_toArray, List.set_cons_zero, List.set_cons_succ]
    refine wpList_run (v := .pointer (some ⟨q, 2, none⟩)) (wanted_none rfl) (exec_field (off := 0) (d := 2) rfl rfl (by kernel_rfl)) ?_
    simp only [Act.put, List.setIfInBounds_toArray, List.set_cons_zero, List.set_cons_succ]
    refine wpList_storeU 2 (.slice none 0 0) (wanted_none rfl) 47 _ _ rfl HBR.out rfl rfl (by show 2 < 7; omega) ⟨rfl, rfl⟩ (by kernel_rfl) ?_
    intro w5 hb5 ht5
    simp only [Act.put, List.setIfInBounds_toArray, List.set_cons_zero, List.set_cons_succ]
    have hb5 : Blk w5 q 49 (refCells (.slice A m c) (.slice (some ⟨hvb, 0, none⟩) m hc) (.slice none 0 0) a.off a.burns a.left a.done) := hb5
    have HB5 := Lib.hid hb5
    have HT5 := Lib.hid ht5
    clear hb5 ht5
    go_upto_region 16 with fail
    refine wp_region_lit ?_
    refine wpList_run (v := .pointer (some ⟨q, 0, none⟩)) (wanted_none rfl) (exec_move rfl rfl) ?_
    simp only [Act.put, List.setIfInBounds_toArray, List.set_cons_zero, List.set_cons_succ]
    refine wpList_run (v := .pointer (some ⟨q, 0, none⟩)) (wanted_none rfl) (exec_nil rfl rfl) ?_
    simp only [Act.put, List.setIfInBounds_toArray, List.set_cons_zero, List.set_cons_succ]
    refine wpList_run (v := .pointer (some ⟨q, 3, none⟩)) (wanted_none rfl) (exec_field (off := 0) (d := 3) rfl rfl (by kernel_rfl)) ?_
    simp only [Act.put, List.setIfInBounds_toArray, List.set_cons_zero, List.set_cons_succ]
    refine wpList_storeU 3 (.bool false) (wanted_none rfl) 4 _ _ rfl HB5.out rfl rfl (by show 3 < 7; omega) ⟨rfl, rfl⟩ (by kernel_rfl) ?_
    intro w6 hb6 ht6
    simp only [Act.put, List.setIfInBounds_toArray, List.set_cons_zero, List.set_cons_succ]
    have hb6 : Blk w6 q 49 (refCells (.slice A m c) (.slice (some ⟨hvb, 0, none⟩) m hc) (.slice none 0 0) false a.burns a.left a.done) := hb6
    have HB6 := Lib.hid hb6
    have HT6 := Lib.hid (HT5.out.trans ht6 fun _ _ e => e)
    clear hb6 ht6
    go_upto_region 17 with fail
    refine wp_region_lit ?_
    refine wpList_run (v := .pointer (some ⟨q, 0, none⟩)) (wanted_none rfl) (exec_move rfl rfl) ?_
    simp only [Act.put, List.setIfInBounds_toArray, List.set_cons_zero, List.set_cons_succ]
    refine wpList_run (v := .pointer (some ⟨q, 0, none⟩)) (wanted_none rfl) (exec_nil rfl rfl) ?_
    simp only [Act.put, List.setIfInBounds_toArray, List.set_cons_zero, List.set_cons_succ]
    refine wpList_run (v := .pointer (some ⟨q, 4, none⟩)) (wanted_none rfl) (exec_field (off := 0) (d := 4) rfl rfl (by kernel_rfl)) ?_
    simp only [Act.put, List.setIfInBounds_toArray, List.set_cons_zero, List.set_cons_succ]
    refine wpList_storeU 4 (.bool false) (wanted_none rfl) 4 _ _ rfl HB6.out rfl rfl (by show 4 < 7; omega) ⟨rfl, rfl⟩ (by kernel_rfl) ?_
    intro w7 hb7 ht7
    simp only [Act.put, List.setIfInBounds_toArray, List.set_cons_zero, List.set_cons_succ]
    have hb7 : Blk w7 q 49 (refCells (.slice A m c) (.slice (some ⟨hvb, 0, none⟩) m hc) (.slice none 0 0) false false a.left a.done) := hb7
    have ht57 := HT6.out.trans ht7 fun _ _ e => e
    have hx7 := HXR.out.setW (w' := w7) (wv' := .slice none 0 0) (ws' := []) (R' := []) (off' := false) (burns' := false) (left' := a.left) (done' := a.done) hb7 ht57 (Orw.nil _ _ _ _) rfl (fun x hx => by cases hx)
    have HF := Lib.hid (show RTo w q (RG q rows (.slice Aw n cw)) Z (a.boot zk) w7 from ⟨RG q rows' (.slice none 0 0), Z', ⟨_, _, _, _, _, _, (show RAtX w7 q Z' (a.boot zk) _ _ _ _ rows' [] from by
      unfold RP.boot
      have h9 : a.R.take n = a.R := List.take_of_length_le (by have := HN.out; omega)
      rw [h9, HKF.out] at hx7
      exact hx7), rfl⟩, fun b hb => (by
      rcases hb with hb | hb | hb
      · exact .inl (.inl hb)
      · exact .inl ((HRG.out b).1 (.inr (.inl hb)))
      · cases hb), HZZ.out, HTR.out.trans ht57 fun b _ e => .inl e⟩)
    clear hb7 ht7 ht57 hx7
    go_wp2_with fail
    go_end0
    exact ⟨rfl, HF.out⟩
end
end Go.Proofs.Yteedjfgandgbkaa
