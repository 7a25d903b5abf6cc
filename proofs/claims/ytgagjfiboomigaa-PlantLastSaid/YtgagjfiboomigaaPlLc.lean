/-
  groatlaw03's PlantLast, walked
-/
import Derived.Test.YtgagjfiboomigaaPlLb
import Derived.Test.YtgagjfiboomigaaPlAp
namespace Go.Proofs.Ytgagjfiboomigaa
open Go.RowKit Go.Maps
set_option linter.unusedVariables false
/-- a call of the law's list, as it is read -/
structure OpV where
  kind : Int
  dev : Int
  place : Int
  n : Int
  byte : UInt8
  keep : Value
def opCells (o : OpV) : List Value := [.int .i64 o.kind, .int .i64 o.dev, .int .i64 o.place, .int .i64 o.n, .int .u8 (o.byte.toNat : Int), o.keep]
def i64ok (n : Int) : Prop := -9223372036854775808 ≤ n ∧ n ≤ 9223372036854775807
def OpsAt (W : World) (a : Option Addr) (len : Nat) (os : List OpV) : Prop :=
  os.length = len ∧ len ≤ maxLen ∧ (∀ o ∈ os, i64ok o.dev ∧ i64ok o.place ∧ i64ok o.n ∧ o.keep.oneCell' = true) ∧
    (0 < len → ∃ b off, a = some ⟨b, off, none⟩ ∧ b < W.heap.size ∧ ∀ i o, os[i]? = some o → ∀ j v, (opCells o)[j]? = some v → W.cell? ⟨b, off + i * 6 + j, none⟩ = some v)
section
variable {w0 w : World} {L : Nat → Prop} {p g c : Nat} {t : TypeId}
theorem sizes88 : sizesOk [8, 8] := ⟨by decide, by decide, by decide⟩
theorem lan (g : Nat) (hb : Blk w g t (intsC [8, 8])) (h0 : Turn nowhere w0 w) : Calls Try.prog 11 #[.slice (some ⟨g, 0, none⟩) 2 2] w fun e w' => ∃ p, e = .returned (.tuple #[.pointer (some ⟨p, 0, none⟩), .int .i64 0]) ∧ St w0 (fun k => k < w0.heap.size) w' p (AP.new [8, 8]) 0 ∧ Turn nowhere w w' :=
  st_new hb rfl sizes88 h0
end
theorem op_one {o : OpV} (h : o.keep.oneCell' = true) : ∀ v ∈ (opCells o).toArray.toList, v.oneCell' = true := by
  intro v hv
  simp [opCells] at hv
  rcases hv with rfl | rfl | rfl | rfl | rfl | rfl
  all_goals first | rfl | exact h
theorem size_op : (Try.prog.info? 38).map (·.size) = some 6 := by kernel_rfl
theorem load_op {w : World} {g q : Nat} {x : OpV} (h : w.rangeAt g q (opCells x)) (W : World) (hW : W.heap = w.heap) :
    (Instr.loadAt 38 (.pointer (some ⟨g, q, none⟩))).run Try.prog W = .ok (.agg (opCells x).toArray) W :=
  run_loadAt_mid W g q 38 (opCells x) _ (fun j v hv => by
    have := h j v hv
    simpa [World.cell?, hW] using this) Try.underlying38 rfl (by rw [size_op]; rfl)
theorem zero_op (w : World) : (zeroValue 38).run Try.prog w = .ok (.agg #[.int .i64 0, .int .i64 0, .int .i64 0, .int .i64 0, .int .u8 0, .slice none 0 0]) w := by kernel_rfl
/-- a slice of integers, nil included -/
def isSl (v : Value) : Prop := ∃ a l c, v = .slice a l c
theorem St.less {w0 w : World} {L L' : Nat → Prop} {p K : Nat} {s : AP} (h : St w0 L w p s K) (hl : ∀ k, L' k → L k) (hlo : ∀ k, k < w0.heap.size → L' k := by intro k hk; exact .inl hk) : St w0 L' w p s K := by
  obtain ⟨F, hp, hF⟩ := h.pl
  exact ⟨⟨F, hp, fun k hk hl' => hF k hk (hl k hl')⟩, fun k hk => h.lt k (hl k hk), hlo, h.tr⟩
def LaS (R hb : Nat) (c : UInt8) (hs : List UInt8) (W : World) : Prop := Blk W R 72 (bcs (fullS c).1).toArray ∧ Blk W hb 59 (bcs hs).toArray
theorem exec_sneq {a : Act} {o : Oper} {W : World} {x y : Operand} {l m : List UInt8} {t u : TypeId} (ho : o.op = .binOp .neq t x y u) (hx : a.eval x = strV l) (hy : a.eval y = strV m) : (execOp a.eval o).run Try.prog W = .ok (.value (.bool (!(l == m)))) W := by
  unfold execOp
  simp [ho, hx, hy, strV, eqGuard, binOp_string_neq]
set_option maxHeartbeats 2000000 in
set_option maxRecDepth 20000 in
theorem plantLast_walk (a0 : Option Addr) (len0 cap0 : Nat) (os : List OpV) (W : World) (hos : OpsAt W a0 len0 os) :
    Calls Try.prog 9 #[.slice a0 len0 cap0] W fun e w' => e = .returned (.bool true) ∧ Below W.heap.size W w' := by
  have HO := Lib.hid hos
  clear hos
  go_enter Try.func9, Try.ntmps9
  go_upto_region 5 with (first
    | (go_at_call 10; refine (shown_walk _).mono ?_; rintro e w1 ⟨rfl, ht⟩; have HT := Lib.hid ht; clear ht)
    | (go_at_call 11; refine (lan (w0 := W) _ (Blk.new _ _ _) (HT.out.alloc _)).mono ?_; rintro e w2 ⟨p, rfl, hs, ht⟩; have HS := Lib.hid hs; clear hs ht))
  go_upto_region 6 with fail
  have hs1 := HS.out.keep ((Turn.refl nowhere _).alloc (.cells (bcs (List.replicate 16 0)).toArray 59)) (Nat.le_refl _) (by simp)
  have hb1 := Blk.new w2 59 (bcs (List.replicate 16 0)).toArray
  have hgb : W.heap.size ≤ w2.heap.size := HS.out.tr.size
  change Code.wp _ _ _ _ (w2.alloc (.cells (bcs (List.replicate 16 0)).toArray 59))
  generalize (w2.alloc (.cells (bcs (List.replicate 16 0)).toArray 59)) = w3 at *
  generalize w2.heap.size = hb at *
  have HS := Lib.hid hs1
  have HB := Lib.hid hb1
  have HG := Lib.hid hgb
  clear hs1 hb1 hgb
  obtain ⟨n0, hn1, hn2, hn3⟩ : ∃ n0, n0 ≤ 100 ∧ n0 ≤ len0 ∧ (n0 = 100 ∨ n0 = len0) := ⟨min len0 100, by omega, by omega, by omega⟩
  have HN := Lib.hid (show n0 ≤ 100 ∧ n0 ≤ len0 ∧ (n0 = 100 ∨ n0 = len0) from ⟨hn1, hn2, hn3⟩)
  clear hn1 hn2 hn3
  go_wp2_with fail
  go_loopg [7] n0 (fun gk i wr => ∃ (k K : Nat) (s : AP) (hs : List UInt8), k + gk = n0 ∧ i = .int .i64 (k : Int) ∧ K ≤ 2 * k ∧ Inv s hs ∧ St W (fun k => k < W.heap.size ∨ k = hb) wr p s K ∧ Blk wr hb 59 (bcs hs).toArray)
  case atStart => exact ⟨0, 0, _, _, by omega, rfl, by omega, Inv.new, HS.out, HB.out⟩
  case round =>
    obtain ⟨k, K, s, hs, hk, rfl, hK, hI, hSt, hBk⟩ := hrel
    have HS := Lib.hid hSt
    have HB := Lib.hid hBk
    have HI := Lib.hid hI
    have HK := Lib.hid hK
    clear hSt hBk hI hK
    by_cases hlt : k < n0
    · have y1 : (k : Int) < (len0 : Int) := by have := HN.out; omega
      have y2 : (k : Int) < 100 := by have := HN.out; omega
      have y3 : (0 : Int) ≤ (k : Int) := by omega
      obtain ⟨ho1, ho2, ho3, ho4⟩ := HO.out
      obtain ⟨b, off, rfl, hbl, hcl⟩ := ho4 (by have := HN.out; omega)
      obtain ⟨o, hok⟩ : ∃ o, os[k]? = some o := ⟨_, List.getElem?_eq_getElem (by have := HN.out; omega)⟩
      have hwf := ho3 o (List.mem_of_getElem? hok)
      have hcell : ∀ j v, (opCells o)[j]? = some v → wr.cell? ⟨b, off + k * 6 + j, none⟩ = some v := fun j v hj => by
        rw [HS.out.tr.cell (p := ⟨b, off + k * 6 + j, none⟩) hbl (fun e => e)]
        exact hcl k o hok j v hj
      have hrg : wr.rangeAt b (off + k * 6) (opCells o) := hcell
      have HW := Lib.hid hwf
      have HKL := Lib.hid hk
      have HR := Lib.hid hrg
      clear ho1 ho2 ho3 ho4 hcl hok hwf hk hcell hlt hbl hrg
      go_upto_region 9 with fail
      refine wp_region_lit ?_
      refine wpList_run (v := .slice (some ⟨b, off, none⟩) len0 cap0) rfl (exec_move rfl rfl) ?_
      simp only [Act.put, List.setIfInBounds_toArray, List.set_cons_zero, List.set_cons_succ]
      refine wpList_run (v := .int .i64 (k : Int)) rfl (exec_move rfl rfl) ?_
      simp only [Act.put, List.setIfInBounds_toArray, List.set_cons_zero, List.set_cons_succ]
      refine wpList_run (v := .pointer (some ⟨b, off + k * 6, none⟩)) (w' := wr) rfl (by go_simp) ?_
      simp only [Act.put, List.setIfInBounds_toArray, List.set_cons_zero, List.set_cons_succ]
      refine wpList_run (v := .agg (opCells o).toArray) rfl (exec_load rfl rfl (load_op HR.out _ rfl)) ?_
      simp only [Act.put, List.setIfInBounds_toArray, List.set_cons_zero, List.set_cons_succ]
      refine wpList_run (v := _) rfl (exec_alloc rfl (zero_op _)) ?_
      simp only [Act.put, List.setIfInBounds_toArray, List.set_cons_zero, List.set_cons_succ]
      have hq := Blk.new wr 38 #[.int .i64 0, .int .i64 0, .int .i64 0, .int .i64 0, .int .u8 0, .slice none 0 0]
      have hs1 := HS.out.keep ((Turn.refl nowhere _).alloc (.cells #[.int .i64 0, .int .i64 0, .int .i64 0, .int .i64 0, .int .u8 0, .slice none 0 0] 38)) (Nat.le_refl _) (by simp)
      have hb1 := HB.out.alloc (.cells #[.int .i64 0, .int .i64 0, .int .i64 0, .int .i64 0, .int .u8 0, .slice none 0 0] 38)
      have hne : wr.heap.size ≠ hb := fun e => by have := HB.out.lt; omega
      have hle : W.heap.size ≤ wr.heap.size := HS.out.tr.size
      generalize (wr.alloc (.cells #[.int .i64 0, .int .i64 0, .int .i64 0, .int .i64 0, .int .u8 0, .slice none 0 0] 38)) = w4 at *
      generalize wr.heap.size = q at *
      refine wpList_store_row rfl 38 (.tmp 8) (.tmp 46) rfl (opCells o).toArray hq rfl rfl rfl size_op (op_one HW.out.2.2.2) ?_
      intro w5 hq5 ht5
      have hs5 := hs1.poke ht5 (.inr rfl) hle
      have hb5 := hb1.turn ht5 (fun e => hne (by rw [show hb = q from e]))
      have c1 := hq5.cell 1
      have c2 := hq5.cell 2
      have c3 := hq5.cell 3
      have c4 := hq5.cell 4
      simp only [opCells, List.getElem?_toArray, List.getElem?_cons_zero, List.getElem?_cons_succ] at c1 c2 c3 c4
      have HS := Lib.hid hs5
      have HB := Lib.hid hb5
      have HQ := Lib.hid hq5
      have HNE := Lib.hid hne
      clear hq hs1 hb1 hle hs5 hb5 ht5 hq5 hne
      go_upto_region 11 with (first
        | (go_at_call 18; refine (kind_walk _ _ HW.out.1).mono ?_; rintro e w6 ⟨m1, rfl, hm, rfl⟩; have HM := Lib.hid hm; clear hm))
      obtain ⟨i, hi, hie⟩ : ∃ i : Nat, i < 2 ∧ ((m1 : Int) % 2) = (i : Int) := ⟨m1 % 2, by omega, by omega⟩
      rw [hie]
      clear hie
      have HI2 := Lib.hid hi
      clear hi
      go_upto_region 12 with (first
        | (go_at_call 18; refine (kind_walk _ _ HW.out.2.1).mono ?_; rintro e w6 ⟨m2, rfl, hm, rfl⟩; have HM := Lib.hid hm; clear hm))
      obtain ⟨pl, hp8, hie⟩ : ∃ i : Nat, i < 8 ∧ ((m2 : Int) % 8) = (i : Int) := ⟨m2 % 8, by omega, by omega⟩
      rw [hie]
      clear hie
      have HP8 := Lib.hid hp8
      clear hp8
      go_upto_region 13 with fail
      refine (full_walk o.byte _).mono ?_
      rintro e w6 ⟨g6, rfl, hz6, hb6, ht6⟩
      have hs6 := HS.out.still ht6
      have hB6 := HB.out.turn ht6 (fun e => e)
      have hQ6 := HQ.out.turn ht6 (fun e => e)
      have HS := Lib.hid hs6
      have HB := Lib.hid hB6
      have HQ := Lib.hid hQ6
      have HF := Lib.hid hb6
      clear hz6 hb6 ht6 hs6 hB6 hQ6 c1 c2 c3 c4
      go_upto_region 13 with fail
      obtain ⟨d, hd, hdn, hdr⟩ := HI.out.at_ i HI2.out
      refine (st_write HS.out i rfl d hd HI.out.on (pl : Int) (by rw [hdn]; have := HP8.out; omega) (by rw [HI.out.fuse]; decide) (fullS o.byte) HF.out (by have := HK.out; have := HN.out; have := HKL.out; omega)).mono ?_
      rintro e w7 ⟨rfl, hs7, ht7⟩
      have hB7 := blk_kept HB.out ht7 (.inl (.inr rfl))
      have hQ7 := blk_kept HQ.out ht7 (.inr rfl)
      have hI7 := HI.out.put HI2.out HP8.out hd o.byte
      have HS := Lib.hid hs7
      have HB := Lib.hid hB7
      have HQ := Lib.hid hQ7
      have HI := Lib.hid hI7
      clear hd hdn hdr hs7 ht7 hB7 hQ7 hI7
      obtain ⟨s7, hs7⟩ : ∃ s7, s7 = s.put i d (pl : Int) (fullS o.byte) := ⟨_, rfl⟩
      rw [← hs7] at HS HI
      clear hs7
      go_upto_region 15 with fail
      obtain ⟨x, hx16, hxe, hxn⟩ : ∃ x : Nat, x < 16 ∧ 8 * (i : Int) + (pl : Int) = (x : Int) ∧ 8 * i + pl = x := ⟨8 * i + pl, by have := HI2.out; have := HP8.out; omega, by omega, rfl⟩
      rw [hxn] at HI
      have HX := Lib.hid (show x < 16 from hx16)
      clear hxn
      have c4 : w7.cell? ⟨q, 4, none⟩ = some (.int .u8 (o.byte.toNat : Int)) := HQ.out.cell 4
      have hlen : hs.length = 16 := by have := HI.out.hl; simpa using this
      have cx : w7.cell? ⟨hb, x, none⟩ = some (.int .u8 ((hs.getD x 0).toNat : Int)) := by
        have := bcs_at hs x (by omega)
        rw [HB.out.cell]
        simpa using this
      have fx := HB.out.frozen x
      have HLEN := Lib.hid hlen
      clear hlen
      refine wp_region_lit ?_
      refine wpList_run (v := .int .i64 (i : Int)) rfl (exec_move rfl rfl) ?_
      simp only [Act.put, List.setIfInBounds_toArray, List.set_cons_zero, List.set_cons_succ]
      refine wpList_run (v := .int .i64 (8 * (i : Int))) (w' := w7) rfl (by have h2 := HI2.out; go_simp; rw [IntKind.wrap_i64]; omega) ?_
      simp only [Act.put, List.setIfInBounds_toArray, List.set_cons_zero, List.set_cons_succ]
      refine wpList_run (v := .int .i64 (pl : Int)) rfl (exec_move rfl rfl) ?_
      simp only [Act.put, List.setIfInBounds_toArray, List.set_cons_zero, List.set_cons_succ]
      refine wpList_run (v := .int .i64 (8 * (i : Int) + (pl : Int))) (w' := w7) rfl (by have h2 := HI2.out; have h8 := HP8.out; go_simp; rw [IntKind.wrap_i64]; omega) ?_
      simp only [Act.put, List.setIfInBounds_toArray, List.set_cons_zero, List.set_cons_succ]
      rw [hxe]
      refine wpList_run (v := .pointer (some ⟨q, 4, none⟩)) rfl (exec_field (off := 0) (d := 4) rfl rfl (by kernel_rfl)) ?_
      simp only [Act.put, List.setIfInBounds_toArray, List.set_cons_zero, List.set_cons_succ]
      refine wpList_run (v := .int .u8 (o.byte.toNat : Int)) rfl (exec_load1 rfl rfl (by kernel_rfl) c4) ?_
      simp only [Act.put, List.setIfInBounds_toArray, List.set_cons_zero, List.set_cons_succ]
      refine wpList_run (v := .pointer (some ⟨hb, x, none⟩)) (w' := w7) rfl (by have hx := HX.out; go_simp; intro h; omega) ?_
      simp only [Act.put, List.setIfInBounds_toArray, List.set_cons_zero, List.set_cons_succ]
      clear hx16 hxe
      go_upto_region 16 with fail
      have hB8 := HB.out.set_ x (.int .u8 (o.byte.toNat : Int))
      have hs8 := HS.out.poke ((Turn.refl (only hb) w7).at_ x (.int .u8 (o.byte.toNat : Int))) (.inl (.inr rfl)) HG.out
      have hQ8 := HQ.out.far (p := ⟨hb, x, none⟩) HNE.out (.int .u8 (o.byte.toNat : Int))
      rw [show (bcs hs).toArray.setIfInBounds x (.int .u8 (o.byte.toNat : Int)) = (bcs (hs.set x o.byte)).toArray from by
        unfold bcs
        apply Array.ext'
        simp [List.map_set]] at hB8
      generalize w7.setCell ⟨hb, x, none⟩ (.int .u8 (o.byte.toNat : Int)) = w8 at *
      have c3 : w8.cell? ⟨q, 3, none⟩ = some (.int .i64 o.n) := hQ8.cell 3
      have HS := Lib.hid hs8
      have HB := Lib.hid hB8
      clear hB8 hs8 hQ8 c4 cx fx
      generalize hs.set x o.byte = hsX at *
      by_cases hm3 : Int.tmod o.n 3 = 0
      · go_upto_region 17 with fail
        go_upto_region 18 with fail
        obtain ⟨d2, hd2, _, _⟩ := HI.out.at_ i HI2.out
        refine (st_flush HS.out i rfl d2 hd2 HI.out.on (by rw [HI.out.fuse]; decide) (by have := HK.out; have := HN.out; have := HKL.out; omega)).mono ?_
        rintro e wX ⟨rfl, hsx, htx⟩
        have HBX := Lib.hid (blk_kept HB.out htx (.inl (.inr rfl)))
        have HIX := Lib.hid (HI.out.flushed HI2.out hd2)
        have HSX := Lib.hid hsx
        have HKX := Lib.hid (show K + 1 + 1 ≤ 2 * (k + 1) by have := HK.out; omega)
        generalize s7.flushed i d2 = sX at *
        generalize K + 1 + 1 = KX at *
        clear hsx htx hd2 c3 hm3
        go_upto_region 20 with fail
        generalize gk = gout at *
        have HWX := Lib.hid (show St W (fun k => (k < W.heap.size ∨ k = hb) ∨ k = q) wX p sX KX ∧ Blk wX hb 59 (bcs hsX).toArray from ⟨HSX.out, HBX.out⟩)
        go_wp2_with fail
        go_loopg [13] 16 (fun gk j wq => ∃ jn : Nat, jn + gk = 16 ∧ j = .int .i64 (jn : Int) ∧ Turn nowhere wX wq)
        case atStart => exact ⟨0, rfl, rfl, Turn.refl _ _⟩
        case round =>
          obtain ⟨jn, hjk, rfl, htq⟩ := hrel
          have HJK := Lib.hid hjk
          have HTq := Lib.hid htq
          clear hjk htq
          by_cases hj : jn < 16
          · have HJ := Lib.hid hj
            have v1 : (jn : Int) < 16 := by omega
            have v2 : (0 : Int) ≤ (jn : Int) := by omega
            clear hj
            go_upto_region 24 with fail
            have HSq := Lib.hid (HWX.out.1.still HTq.out)
            obtain ⟨d, hd, hdn, hdr⟩ := HIX.out.at_ (jn / 8) (by have := HJ.out; omega)
            refine (st_read HSq.out (jn / 8) (by omega) d hd HIX.out.on ((jn : Int) % 8) (by rw [hdn]; omega)).mono ?_
            rintro e wq2 ⟨R, rfl, hz, hbR, ht2⟩
            have hrr : d.read ((jn : Int) % 8) = fullS (hsX.getD jn 0) := by
              have h8 := hdr (jn % 8) (by omega)
              rw [show 8 * (jn / 8) + jn % 8 = jn from by omega] at h8
              rw [← h8]
              rfl
            rw [hrr] at hbR
            have hcc : (bcs hsX).toArray[jn]? = some (.int .u8 ((hsX.getD jn 0).toNat : Int)) := by
              have := bcs_at hsX jn (by rw [HIX.out.hl]; exact HJ.out)
              simpa using this
            obtain ⟨c, hc⟩ : ∃ c, c = hsX.getD jn 0 := ⟨_, rfl⟩
            rw [← hc] at hbR hcc
            have HC := Lib.hid hcc
            have HR2 := Lib.hid hbR
            have HT2 := Lib.hid ht2
            have HB2 := Lib.hid ((HWX.out.2.turn HTq.out (fun e => e)).turn ht2 (fun e => e))
            clear hd hdn hdr hz hbR ht2 hrr hcc hc
            go_upto_region 24 with fail
            have hS0 : LaS R hb c hsX wq2.drew := ⟨HR2.out, HB2.out⟩
            refine wp_region_till (LaS R hb c hsX) 10 (by kernel_rfl) ?_
            refine till_pure (i := 0) (v := .int .i64 0) rfl (by kernel_rfl) (by kernel_rfl) (fun _ _ _ h => h) (.inl ⟨by rfl, fun W hW => exec_move rfl rfl⟩) hS0 ?_
            simp only [Act.put, List.setIfInBounds_toArray, List.set_cons_zero, List.set_cons_succ]
            refine till_pure (i := 1) (v := .bool false) rfl (by kernel_rfl) (by kernel_rfl) (fun _ _ _ h => h) (.inl ⟨by rfl, fun W hW => by go_simp⟩) hS0 ?_
            simp only [Act.put, List.setIfInBounds_toArray, List.set_cons_zero, List.set_cons_succ]
            refine till_pure (i := 2) (v := .bool false) rfl (by kernel_rfl) (by kernel_rfl) (fun _ _ _ h => h) (.inl ⟨by rfl, fun W hW => exec_move rfl rfl⟩) hS0 ?_
            simp only [Act.put, List.setIfInBounds_toArray, List.set_cons_zero, List.set_cons_succ]
            refine till_pure (i := 3) (v := .slice (some ⟨R, 0, none⟩) 64 64) rfl (by kernel_rfl) (by kernel_rfl) (fun _ _ _ h => h) (.inl ⟨by rfl, fun W hW => exec_move rfl rfl⟩) hS0 ?_
            simp only [Act.put, List.setIfInBounds_toArray, List.set_cons_zero, List.set_cons_succ]
            refine till_take (i := 4) (v := strV (fullS c).1) rfl (by kernel_rfl) (by kernel_rfl) (fun _ _ _ h => h) (.inl ⟨by rfl, fun W hW => exec_str rfl rfl (fullS c).2 (range_blk hW.1)⟩) hS0 ?_
            simp only [Act.put, List.setIfInBounds_toArray, List.set_cons_zero, List.set_cons_succ]
            refine till_pure (i := 5) (v := .int .i64 (jn : Int)) rfl (by kernel_rfl) (by kernel_rfl) (fun _ _ _ h => h) (.inl ⟨by rfl, fun W hW => exec_move rfl rfl⟩) hS0 ?_
            simp only [Act.put, List.setIfInBounds_toArray, List.set_cons_zero, List.set_cons_succ]
            refine till_pure (i := 6) (v := .pointer (some ⟨hb, jn, none⟩)) rfl (by kernel_rfl) (by kernel_rfl) (fun _ _ _ h => h) (.inl ⟨by rfl, fun W hW => (by have hx := HJ.out; go_simp <;> (intro h; omega))⟩) hS0 ?_
            simp only [Act.put, List.setIfInBounds_toArray, List.set_cons_zero, List.set_cons_succ]
            refine till_only (i := 7) (by kernel_rfl) rfl rfl ?_
            refine wp_run (v := .int .u8 (c.toNat : Int)) (w' := wq2.drew) (exec_load1 rfl rfl (by kernel_rfl) ((HB2.out.cell jn).trans HC.out)) ?_
            refine ⟨fun _ => hS0, ?_⟩
            simp only [Act.put, List.setIfInBounds_toArray, List.set_cons_zero, List.set_cons_succ]
            refine till_step (i := 8) (by kernel_rfl) rfl rfl ?_
            intro K1 HK1
            go_wp2_with fail
            refine (full_walk c _).mono ?_
            rintro e wq3 ⟨g3, rfl, hz3, hb3, ht3⟩
            have hR3 : LaS R hb c hsX wq3 := ⟨hS0.1.turn ht3 (fun e => e), hS0.2.turn ht3 (fun e => e)⟩
            refine HK1.out _ _ ⟨fun _ => hR3, ?_⟩
            clear HK1
            refine till_mono (S' := fun W => Blk W g3 5 (bcs (fullS c).1).toArray ∧ LaS R hb c hsX W) (fun _ h => h.2) _ _ _ _ ?_
            have hS1 : Blk wq3 g3 5 (bcs (fullS c).1).toArray ∧ LaS R hb c hsX wq3 := ⟨hb3, hR3⟩
            refine till_take (i := 9) (v := strV (fullS c).1) rfl (by kernel_rfl) (by kernel_rfl) (fun _ _ _ h => h) (.inl ⟨by rfl, fun W hW => exec_str rfl rfl (fullS c).2 (range_blk hW.1)⟩) hS1 ?_
            simp only [Act.put, List.setIfInBounds_toArray, List.set_cons_zero, List.set_cons_succ]
            refine till_tail 10 rfl (by kernel_rfl) ?_
            refine wpList_run (v := .bool false) (w' := wq3) rfl ((exec_sneq (l := (fullS c).1) (m := (fullS c).1) rfl rfl rfl).trans (by simp)) ?_
            simp only [Act.put, List.setIfInBounds_toArray, List.set_cons_zero, List.set_cons_succ]
            have HT3 := Lib.hid ht3
            clear hS0 hS1 hR3 hb3 ht3 hz3
            go_wp2_with fail
            refine NoPanic.normal ?_
            go_wp2_with fail
            go_roundg (gk - 1)
            case measure => have := HJK.out; omega
            case rel =>
              refine ⟨jn + 1, by have := HJK.out; have := HJ.out; omega, by go_num, ((HTq.out.trans HT2.out (fun _ _ e => e)).drew).trans HT3.out (fun _ _ e => e)⟩
          · have hj16 : jn = 16 := by have := HJK.out; omega
            subst hj16
            clear hj
            go_wp2_with fail
            go_roundg (gout - 1)
            case measure => have := HKL.out; have := HN.out; omega
            case rel =>
              refine ⟨k + 1, KX, sX, hsX, by have := HKL.out; have := HN.out; omega, by go_num, HKX.out, HIX.out, ?_, ?_⟩
              · exact (HWX.out.1.still HTq.out).less (fun k hk => .inl hk) 
              · exact HWX.out.2.turn HTq.out (fun e => e)
      · have hm3b : (Int.tmod o.n 3 == 0) = false := by simp [hm3]
        go_upto_region 20 with fail
        have HBX := HB
        have HIX := HI
        have HSX := HS
        have HKX := Lib.hid (show K + 1 ≤ 2 * (k + 1) by have := HK.out; omega)
        generalize K + 1 = KX at *
        generalize w8 = wX at *
        generalize s7 = sX at *
        clear c3 hm3 hm3b
        generalize gk = gout at *
        have HWX := Lib.hid (show St W (fun k => (k < W.heap.size ∨ k = hb) ∨ k = q) wX p sX KX ∧ Blk wX hb 59 (bcs hsX).toArray from ⟨HSX.out, HBX.out⟩)
        go_wp2_with fail
        go_loopg [13] 16 (fun gk j wq => ∃ jn : Nat, jn + gk = 16 ∧ j = .int .i64 (jn : Int) ∧ Turn nowhere wX wq)
        case atStart => exact ⟨0, rfl, rfl, Turn.refl _ _⟩
        case round =>
          obtain ⟨jn, hjk, rfl, htq⟩ := hrel
          have HJK := Lib.hid hjk
          have HTq := Lib.hid htq
          clear hjk htq
          by_cases hj : jn < 16
          · have HJ := Lib.hid hj
            have v1 : (jn : Int) < 16 := by omega
            have v2 : (0 : Int) ≤ (jn : Int) := by omega
            clear hj
            go_upto_region 24 with fail
            have HSq := Lib.hid (HWX.out.1.still HTq.out)
            obtain ⟨d, hd, hdn, hdr⟩ := HIX.out.at_ (jn / 8) (by have := HJ.out; omega)
            refine (st_read HSq.out (jn / 8) (by omega) d hd HIX.out.on ((jn : Int) % 8) (by rw [hdn]; omega)).mono ?_
            rintro e wq2 ⟨R, rfl, hz, hbR, ht2⟩
            have hrr : d.read ((jn : Int) % 8) = fullS (hsX.getD jn 0) := by
              have h8 := hdr (jn % 8) (by omega)
              rw [show 8 * (jn / 8) + jn % 8 = jn from by omega] at h8
              rw [← h8]
              rfl
            rw [hrr] at hbR
            have hcc : (bcs hsX).toArray[jn]? = some (.int .u8 ((hsX.getD jn 0).toNat : Int)) := by
              have := bcs_at hsX jn (by rw [HIX.out.hl]; exact HJ.out)
              simpa using this
            obtain ⟨c, hc⟩ : ∃ c, c = hsX.getD jn 0 := ⟨_, rfl⟩
            rw [← hc] at hbR hcc
            have HC := Lib.hid hcc
            have HR2 := Lib.hid hbR
            have HT2 := Lib.hid ht2
            have HB2 := Lib.hid ((HWX.out.2.turn HTq.out (fun e => e)).turn ht2 (fun e => e))
            clear hd hdn hdr hz hbR ht2 hrr hcc hc
            go_upto_region 24 with fail
            have hS0 : LaS R hb c hsX wq2.drew := ⟨HR2.out, HB2.out⟩
            refine wp_region_till (LaS R hb c hsX) 10 (by kernel_rfl) ?_
            refine till_pure (i := 0) (v := .int .i64 0) rfl (by kernel_rfl) (by kernel_rfl) (fun _ _ _ h => h) (.inl ⟨by rfl, fun W hW => exec_move rfl rfl⟩) hS0 ?_
            simp only [Act.put, List.setIfInBounds_toArray, List.set_cons_zero, List.set_cons_succ]
            refine till_pure (i := 1) (v := .bool false) rfl (by kernel_rfl) (by kernel_rfl) (fun _ _ _ h => h) (.inl ⟨by rfl, fun W hW => by go_simp⟩) hS0 ?_
            simp only [Act.put, List.setIfInBounds_toArray, List.set_cons_zero, List.set_cons_succ]
            refine till_pure (i := 2) (v := .bool false) rfl (by kernel_rfl) (by kernel_rfl) (fun _ _ _ h => h) (.inl ⟨by rfl, fun W hW => exec_move rfl rfl⟩) hS0 ?_
            simp only [Act.put, List.setIfInBounds_toArray, List.set_cons_zero, List.set_cons_succ]
            refine till_pure (i := 3) (v := .slice (some ⟨R, 0, none⟩) 64 64) rfl (by kernel_rfl) (by kernel_rfl) (fun _ _ _ h => h) (.inl ⟨by rfl, fun W hW => exec_move rfl rfl⟩) hS0 ?_
            simp only [Act.put, List.setIfInBounds_toArray, List.set_cons_zero, List.set_cons_succ]
            refine till_take (i := 4) (v := strV (fullS c).1) rfl (by kernel_rfl) (by kernel_rfl) (fun _ _ _ h => h) (.inl ⟨by rfl, fun W hW => exec_str rfl rfl (fullS c).2 (range_blk hW.1)⟩) hS0 ?_
            simp only [Act.put, List.setIfInBounds_toArray, List.set_cons_zero, List.set_cons_succ]
            refine till_pure (i := 5) (v := .int .i64 (jn : Int)) rfl (by kernel_rfl) (by kernel_rfl) (fun _ _ _ h => h) (.inl ⟨by rfl, fun W hW => exec_move rfl rfl⟩) hS0 ?_
            simp only [Act.put, List.setIfInBounds_toArray, List.set_cons_zero, List.set_cons_succ]
            refine till_pure (i := 6) (v := .pointer (some ⟨hb, jn, none⟩)) rfl (by kernel_rfl) (by kernel_rfl) (fun _ _ _ h => h) (.inl ⟨by rfl, fun W hW => (by have hx := HJ.out; go_simp <;> (intro h; omega))⟩) hS0 ?_
            simp only [Act.put, List.setIfInBounds_toArray, List.set_cons_zero, List.set_cons_succ]
            refine till_only (i := 7) (by kernel_rfl) rfl rfl ?_
            refine wp_run (v := .int .u8 (c.toNat : Int)) (w' := wq2.drew) (exec_load1 rfl rfl (by kernel_rfl) ((HB2.out.cell jn).trans HC.out)) ?_
            refine ⟨fun _ => hS0, ?_⟩
            simp only [Act.put, List.setIfInBounds_toArray, List.set_cons_zero, List.set_cons_succ]
            refine till_step (i := 8) (by kernel_rfl) rfl rfl ?_
            intro K1 HK1
            go_wp2_with fail
            refine (full_walk c _).mono ?_
            rintro e wq3 ⟨g3, rfl, hz3, hb3, ht3⟩
            have hR3 : LaS R hb c hsX wq3 := ⟨hS0.1.turn ht3 (fun e => e), hS0.2.turn ht3 (fun e => e)⟩
            refine HK1.out _ _ ⟨fun _ => hR3, ?_⟩
            clear HK1
            refine till_mono (S' := fun W => Blk W g3 5 (bcs (fullS c).1).toArray ∧ LaS R hb c hsX W) (fun _ h => h.2) _ _ _ _ ?_
            have hS1 : Blk wq3 g3 5 (bcs (fullS c).1).toArray ∧ LaS R hb c hsX wq3 := ⟨hb3, hR3⟩
            refine till_take (i := 9) (v := strV (fullS c).1) rfl (by kernel_rfl) (by kernel_rfl) (fun _ _ _ h => h) (.inl ⟨by rfl, fun W hW => exec_str rfl rfl (fullS c).2 (range_blk hW.1)⟩) hS1 ?_
            simp only [Act.put, List.setIfInBounds_toArray, List.set_cons_zero, List.set_cons_succ]
            refine till_tail 10 rfl (by kernel_rfl) ?_
            refine wpList_run (v := .bool false) (w' := wq3) rfl ((exec_sneq (l := (fullS c).1) (m := (fullS c).1) rfl rfl rfl).trans (by simp)) ?_
            simp only [Act.put, List.setIfInBounds_toArray, List.set_cons_zero, List.set_cons_succ]
            have HT3 := Lib.hid ht3
            clear hS0 hS1 hR3 hb3 ht3 hz3
            go_wp2_with fail
            refine NoPanic.normal ?_
            go_wp2_with fail
            go_roundg (gk - 1)
            case measure => have := HJK.out; omega
            case rel =>
              refine ⟨jn + 1, by have := HJK.out; have := HJ.out; omega, by go_num, ((HTq.out.trans HT2.out (fun _ _ e => e)).drew).trans HT3.out (fun _ _ e => e)⟩
          · have hj16 : jn = 16 := by have := HJK.out; omega
            subst hj16
            clear hj
            go_wp2_with fail
            go_roundg (gout - 1)
            case measure => have := HKL.out; have := HN.out; omega
            case rel =>
              refine ⟨k + 1, KX, sX, hsX, by have := HKL.out; have := HN.out; omega, by go_num, HKX.out, HIX.out, ?_, ?_⟩
              · exact (HWX.out.1.still HTq.out).less (fun k hk => .inl hk) 
              · exact HWX.out.2.turn HTq.out (fun e => e)
    · have hkn : k = n0 := by omega
      clear hlt
      have HKN := Lib.hid hkn
      clear hkn hk
      by_cases hll : k < len0
      · have y1 : (k : Int) < (len0 : Int) := by omega
        have y2 : ¬ ((k : Int) < 100) := by have := HKN.out; have := HN.out; omega
        clear hll
        go_wp2_with fail
        go_ret
        exact ⟨rfl, HS.out.tr.below (Nat.le_refl _) (fun _ _ e => e)⟩
      · have y1 : ¬ ((k : Int) < (len0 : Int)) := by omega
        clear hll
        go_wp2_with fail
        go_ret
        exact ⟨rfl, HS.out.tr.below (Nat.le_refl _) (fun _ _ e => e)⟩
end Go.Proofs.Ytgagjfiboomigaa
