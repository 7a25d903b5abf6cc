/-
  Texts in one file: PlE PlP PlQ PlR PlS. Conditions: the tables and the errors read as the program's text lays them.
-/
import Derived.Test.YtelipeoilcepbaaDoorWp0
import Derived.Test.YtelipeoilcepbaaDoorWp10
import Derived.Laws.CopyOwn
namespace Go.Proofs.YtelipeoilcepbaaDoor
open Go.RowKit Go.Maps
set_option maxRecDepth 20000
set_option linter.unusedVariables false
def bootSec (j : Int) (old b : Sec) : Sec :=
  if j = 1 then b else if j = 2 then ⟨b.1.take 32 ++ old.1.drop 32, by simp [b.2, old.2]⟩ else if j = 3 then ⟨old.1.take 32 ++ b.1.drop 32, by simp [b.2, old.2]⟩ else old
def bootFl (j : Int) (place : Int) (b : Sec) (ff : Int → Option Sec) : Int → Option Sec :=
  if j = 0 then ff else upd ff place (bootSec j ((ff place).getD zeroSec) b)
theorem info_byte : (Tryd.prog.info? 5).map (·.size) = some 1 := by kernel_rfl
theorem range_take {w : World} {g o : Nat} {bs : List UInt8} (h : w.rangeAt g o (bcs bs)) (n : Nat) : w.rangeAt g o (bcs (bs.take n)) := fun j v hv => by
  refine h j v ?_
  unfold bcs at hv ⊢
  rw [List.map_take, List.getElem?_take] at hv
  split at hv
  · exact hv
  · cases hv
theorem range_drop {w : World} {g o : Nat} {bs : List UInt8} (h : w.rangeAt g o (bcs bs)) (n : Nat) : w.rangeAt g (o + n) (bcs (bs.drop n)) := fun j v hv => by
  have := h (n + j) v (by
    unfold bcs at hv ⊢
    rw [List.map_drop, List.getElem?_drop] at hv
    exact hv)
  rwa [← Nat.add_assoc] at this
theorem wpList_copy_bytes {ops : Array Oper} {rest : List Oper} {o : Oper} {a : Act} {w : World} {Q : Exit → Act → World → Prop} (hgd : o.guard = none) (d s : Operand)
    (ho : o.op = .call { callee := .builtin .copy, args := #[d, s], argTypes := #[38, 38] }) {g off g2 o2 n dc sc : Nat} {t : TypeId} (old bs : List UInt8) (hb : Blk w g t (bcs old).toArray) (hsrc : w.rangeAt g2 o2 (bcs bs)) (hn : bs.length = n)
    (hd : a.eval d = .slice (some ⟨g, off, none⟩) n dc) (hs : a.eval s = .slice (some ⟨g2, o2, none⟩) n sc) (hfit : off + n ≤ old.length)
    (h : ∀ w', Blk w' g t (bcs (old.take off ++ bs ++ old.drop (off + n))).toArray → Turn (only g) w w' → wpList Tryd.prog ops Q rest (a.put o.dst (goInt n)) w') : wpList Tryd.prog ops Q (o :: rest) a w := by
  subst hn
  refine wpList_copy_own hgd d s _ _ ho 5 Tryd.underlying38 info_byte g off bs.length dc ⟨g2, o2, none⟩ bs.length sc hd hs (bcs old).toArray t hb (bcs bs) (by rw [bcs_length]; exact (Nat.min_self _).symm) (fun j v hj => by
    rw [add_nat]
    exact hsrc j v hj) (by rw [bcs_length]; simpa [bcs_length] using hfit) (bcs_one bs) ?_
  rw [bcs_length]
  refine h _ ?_ ⟨rfl, rfl, rfl, by simp, fun k hk hn => setRow_other w g k _ hn⟩
  have e : ((bcs old).toArray.toList.take off ++ (bcs bs ++ (bcs old).toArray.toList.drop (off + bs.length))).toArray = (bcs (old.take off ++ bs ++ old.drop (off + bs.length))).toArray := by
    simp [bcs, List.map_append, List.map_take, List.map_drop]
  rw [e]
  exact setRow_heap w g _ _ t _ hb
def cutOff (c off : Nat) : Nat := if c = 1 then off else off + 66
theorem exec_alloc {P : Program} {a : Act} {o : Oper} {t : TypeId} {cs : Array Value} {W : World} (ho : o.op = .alloc t) (hz : (zeroValue t).run P W = .ok (.agg cs) W) :
    (execOp a.eval o).run P W = .ok (.value (.pointer (some ⟨W.heap.size, 0, none⟩))) (W.alloc (.cells cs t)) := by
  unfold execOp
  simp only [ho]
  simp [hz, Instr.alloc, Result.andThen, newVar, newRow, Value.cells]
theorem zero_write (w : World) : (zeroValue 117).run Tryd.prog w = .ok (.agg (wtCells (0, 0, zeroSec)).toArray) w := by kernel_rfl
theorem slice_oneP (g off n c : Nat) (h0 : 0 < n) (hc : n ≤ c) (W : World) : (Instr.sliceAt 86 (.slice (some ⟨g, off, none⟩) n c) (some (.int .i64 1)) none none).run Tryd.prog W = .ok (.slice (some ⟨g, cutOff c off, none⟩) (n - 1) (c - 1)) W := by
  have hu := Tryd.underlying86
  have hi : ∃ i, Tryd.prog.info? 117 = some i ∧ i.size = 66 := by
    have h := size_write
    cases hq : Tryd.prog.info? 117 with
    | none => rw [hq] at h; cases h
    | some i => exact ⟨i, rfl, by rw [hq] at h; exact Option.some.inj h⟩
  obtain ⟨i, hi1, hi2⟩ := hi
  have e1 : ∀ s : Addr, (⟨g, off, none⟩ : Addr).add 66 = ⟨g, off + 66, none⟩ := fun _ => add_nat g off 66
  have b1 : (0 : Int) ≤ 1 ∧ (1 : Int) ≤ (n : Int) := ⟨by omega, by omega⟩
  simp only [Instr.sliceAt, Instr.slice, Instr.sliceBounds, Instr.sliceBound, run_underlying hu, Sem.run_bind, Sem.run_pure, Result.andThen_ok, asIntOf, sizeOf, typeInfo]
  simp [b1, hi1, hi2]
  unfold cutOff
  by_cases hc1 : c = 1
  · simp [hc1]
  · simp [hc1]
    exact e1 ⟨0, 0, none⟩
set_option maxHeartbeats 1000000 in
theorem boot_walk (db o fl n1 g off n c : Nat) (ff : Int → Option Sec) (x : Wt) (k j : Int) (C : Array Value) (w : World)
    (hd : Blk w db 88 C) (h1 : C[o + 1]? = some (.map (some fl))) (h3 : C[o + 3]? = some (.slice (some ⟨g, off, none⟩) n c)) (hs : o + 3 < C.size) (hm1 : MapAt w kI eS fl n1 ff) (hr : w.rangeAt g off (wtCells x)) (hx : (Lit.int .i64 x.2.1).wf = true)
    (h0 : 0 < n) (hc : n ≤ c) (hcm : c ≤ 9223372036854775807) (hroom : n1 < 2199023255552) (hj : bits .and .i64 k 3 = j) (hj4 : j = 0 ∨ j = 1 ∨ j = 2 ∨ j = 3) :
    Calls Tryd.prog 44 #[.pointer (some ⟨db, o, none⟩), .int .i64 k] w fun e w' => e = .returned (.tuple #[]) ∧
      Blk w' db 88 (C.setIfInBounds (o + 3) (.slice (some ⟨g, cutOff c off, none⟩) (n - 1) (c - 1))) ∧ MapAt w' kI eS fl (n1 + 1) (bootFl j x.2.1 x.2.2 ff) ∧
        Turn (fun k => k = db ∨ k = fl) w w' := by
  have c1 : w.cell? ⟨db, o + 1, none⟩ = some (.map (some fl)) := (hd.cell _).trans h1
  have c3 : w.cell? ⟨db, o + 3, none⟩ = some (.slice (some ⟨g, off, none⟩) n c) := (hd.cell _).trans h3
  have f3 := hd.frozen (o + 3)
  have ldb := hd.lt
  have H1 := Lib.hid hm1
  have Hd := Lib.hid hd
  have z1 : (0 : Int) < (n : Int) := by omega
  have z2 : (1 : Int) ≤ (n : Int) := by omega
  have z3 : (1 : Int) ≤ (c : Int) := by omega
  have z4 : (n : Int) ≤ (c : Int) := by omega
  have Hj := Lib.hid hj
  clear hm1 hd h1 h3 hj
  go_enter Tryd.func44, Tryd.ntmps44
  have hz := zero_write
  go_upto_region 1 with (first
    | (refine wpList_run rfl (exec_load (ty := 117) (x := .tmp 10) rfl rfl (load_write hr _ rfl)) ?_)
    | (refine wpList_store_row rfl 117 (.tmp 4) (.tmp 11) rfl (wtCells x).toArray (Blk.new w _ _) rfl rfl (by simp [wtCells_length]) (by rw [size_write]; simp [wtCells_length]) (fun v hv => wtCells_one x v (by simpa using hv)) ?_; intro w1 hb1 ht1))
  have hd1 : Blk w1 db 88 C := (Hd.out.alloc _).turn ht1 (Nat.ne_of_lt Hd.out.lt)
  have hm1 : MapAt w1 kI eS fl n1 ff := (H1.out.alloc _).turn ht1 (Nat.ne_of_lt H1.out.lt)
  have t1 : Turn (fun k => k = db ∨ k = fl) w w1 := ((Turn.refl _ _).alloc _).trans ht1 (fun k hk e => (Nat.ne_of_lt hk e).elim)
  have Hne := H1.out.ne Hd.out
  have hGdb : db ≠ w.heap.size := Nat.ne_of_lt Hd.out.lt
  have c3' : w1.cell? ⟨db, o + 3, none⟩ = some (.slice (some ⟨g, off, none⟩) n c) := by rw [hd1.cell, ← Hd.out.cell]; exact c3
  have f3' := hd1.frozen (o + 3)
  have c1' : w1.cell? ⟨db, o + 1, none⟩ = some (.map (some fl)) := by rw [hd1.cell, ← Hd.out.cell]; exact c1
  have T1 := Lib.hid t1
  have HM := Lib.hid hm1
  clear ht1 hm1 t1 c3 c1 f3 hr
  go_upto_region 2 with (first
    | (refine wpList_run (o := ⟨some 17, _, _, _, _, _⟩) rfl (exec_slice (t := 86) (x := .tmp 16) (lo := some (.const (.int .i64 1))) (hi := none) (mx := none) (l := some (.int .i64 1)) (h := none) (m := none) (u := .slice (some ⟨g, off, none⟩) n c) rfl rfl rfl rfl rfl (slice_oneP g off n c h0 hc _)) ?_))
  have hd2 := hd1.set_ (o + 3) (.slice (some ⟨g, cutOff c off, none⟩) (n - 1) (c - 1))
  have hb2 : Blk _ w.heap.size 117 (wtCells x).toArray := hb1.far (p := ⟨db, o + 3, none⟩) (Ne.symm hGdb) (.slice (some ⟨g, cutOff c off, none⟩) (n - 1) (c - 1))
  have hm2 := HM.out.setCell (p := ⟨db, o + 3, none⟩) (Ne.symm Hne) (.slice (some ⟨g, cutOff c off, none⟩) (n - 1) (c - 1))
  have t2 := T1.out.setCell (p := ⟨db, o + 3, none⟩) (fun _ => .inl rfl) (.slice (some ⟨g, cutOff c off, none⟩) (n - 1) (c - 1))
  have q1 : (C.setIfInBounds (o + 3) (.slice (some ⟨g, cutOff c off, none⟩) (n - 1) (c - 1)))[o + 1]? = some (.map (some fl)) := by
    rw [Array.getElem?_setIfInBounds, if_neg (by omega), ← hd1.cell]
    exact c1'
  generalize w1.setCell ⟨db, o + 3, none⟩ (.slice (some ⟨g, cutOff c off, none⟩) (n - 1) (c - 1)) = w2 at *
  generalize hC2 : C.setIfInBounds (o + 3) (.slice (some ⟨g, cutOff c off, none⟩) (n - 1) (c - 1)) = C2 at *
  have HC2 := Lib.hid hC2
  clear hC2
  generalize w.heap.size = G at *
  clear hd1 hb1 HM T1 c3' c1' f3'
  have hS2 : Blk w2.drew db 88 C2 ∧ Blk w2.drew G 117 (wtCells x).toArray ∧ MapAt w2.drew kI eS fl n1 ff := ⟨hd2, hb2, hm2⟩
  have hz72 := zero_sector
  go_wp2_with fail
  refine wp_region_till (fun W => Blk W db 88 C2 ∧ Blk W G 117 (wtCells x).toArray ∧ MapAt W kI eS fl n1 ff) 8 (by kernel_rfl) ?_
  refine till_take (i := 0) (v := .pointer (some ⟨db, o, none⟩)) rfl (by kernel_rfl) (by kernel_rfl) (fun _ _ _ h => h) (.inl ⟨rfl, fun W hW => exec_move rfl rfl⟩) hS2 ?_
  simp only [zz]
  refine till_take (i := 1) (v := .pointer (some ⟨db, o, none⟩)) rfl (by kernel_rfl) (by kernel_rfl) (fun _ _ _ h => h) (.inl ⟨rfl, fun W hW => exec_nil rfl rfl⟩) hS2 ?_
  simp only [zz]
  refine till_take (i := 2) (v := .pointer (some ⟨db, o + 1, none⟩)) rfl (by kernel_rfl) (by kernel_rfl) (fun _ _ _ h => h) (.inl ⟨rfl, fun W hW => exec_field rfl rfl (by kernel_rfl)⟩) hS2 ?_
  simp only [zz]
  refine till_take (i := 3) (v := .map (some fl)) rfl (by kernel_rfl) (by kernel_rfl) (fun _ _ _ h => h) (.inl ⟨rfl, fun W hW => exec_load1 rfl rfl (by kernel_rfl) ((hW.1.cell (o + 1)).trans q1)⟩) hS2 ?_
  simp only [zz]
  refine till_take (i := 4) (v := .pointer (some ⟨G, 1, none⟩)) rfl (by kernel_rfl) (by kernel_rfl) (fun _ _ _ h => h) (.inl ⟨rfl, fun W hW => exec_field (off := 0) (d := 1) rfl rfl (by kernel_rfl)⟩) hS2 ?_
  simp only [zz]
  refine till_take (i := 5) (v := .int .i64 x.2.1) rfl (by kernel_rfl) (by kernel_rfl) (fun _ _ _ h => h) (.inl ⟨rfl, fun W hW => exec_load1 rfl rfl (by kernel_rfl) ((hW.2.1.cell 1).trans (by simp [wtCells]))⟩) hS2 ?_
  simp only [zz]
  refine till_take (i := 6) (v := rowV ((ff x.2.1).getD zeroSec).1) rfl (by kernel_rfl) (by kernel_rfl) (fun _ _ _ h => h) (.inl ⟨rfl, fun W hW => exec_lookup (M := .map (some fl)) (k := .int .i64 x.2.1) rfl rfl rfl (hW.2.2.lookup map_sector (zero_sector _) hx)⟩) hS2 ?_
  simp only [zz]
  refine till_only (i := 7) (by kernel_rfl) rfl rfl ?_
  refine wp_run (exec_alloc rfl (zero_sector _)) ?_
  have hS3 : Blk _ db 88 C2 ∧ Blk _ G 117 (wtCells x).toArray ∧ MapAt _ kI eS fl n1 ff := ⟨hS2.1.alloc (.cells (bcs zeroSec.1).toArray 115), hS2.2.1.alloc (.cells (bcs zeroSec.1).toArray 115), hS2.2.2.alloc (.cells (bcs zeroSec.1).toArray 115)⟩
  have hB3 := Blk.new w2.drew 115 (bcs zeroSec.1).toArray
  have t3 := t2.drew.alloc (.cells (bcs zeroSec.1).toArray 115)
  refine ⟨fun _ => hS3, ?_⟩
  refine till_tail 8 rfl (by kernel_rfl) ?_
  simp only [zz]
  obtain ⟨old, hold⟩ : ∃ s : Sec, s = (ff x.2.1).getD zeroSec := ⟨_, rfl⟩
  rw [← hold]
  have Ho := Lib.hid hold
  clear hold
  have hz3 := hB3
  generalize hw3 : w2.drew.alloc (.cells (bcs zeroSec.1).toArray 115) = w3 at *
  generalize hD : w2.drew.heap.size = D at *
  have hDG : D ≠ G := by
    have := hb2.lt
    have e : w2.drew.heap.size = w2.heap.size := rfl
    omega
  have hDw : ∀ k, k < w.heap.size → only D k → False := by
    intro k hk e
    have e' : k = D := e
    have e2 : w2.drew.heap.size = w2.heap.size := rfl
    have := t2.size
    omega
  clear hw3 hD hd2 hb2 hm2 t2 hS2
  refine wpList_store_row rfl 115 (.tmp 5) (.tmp 26) rfl (bcs old.1).toArray hB3 rfl rfl (by rw [← sec_size, ← sec_size]) (size_sec old) (sec_one old) ?_
  intro w4 hB4 ht4
  have hd4 : Blk w4 db 88 C2 := hS3.1.turn ht4 (by
    have := Blk.ne_ hS3.1 hB3 (by decide)
    exact this)
  have hb4 : Blk w4 G 117 (wtCells x).toArray := hS3.2.1.turn ht4 (Ne.symm hDG)
  have hm4 : MapAt w4 kI eS fl n1 ff := hS3.2.2.turn ht4 (fun e => hS3.2.2.ne hB3 e.symm)
  have HDdb : db ≠ D := Blk.ne_ hS3.1 hB3 (by decide)
  have hfl : fl ≠ D := fun e => hS3.2.2.ne hB3 e.symm
  have t4 : Turn (fun k => k = db ∨ k = fl) w w4 := t3.trans ht4 (fun k hk e => (hDw k hk e).elim)
  have Hfl := Lib.hid hfl
  have T4 := Lib.hid t4
  have HDw := Lib.hid hDw
  have Q1 := Lib.hid q1
  clear hS3 hB3 ht4 t3 hz3 hz hz72 hfl t4 hDw q1
  refine wpList_nil ?_
  refine NoPanic.normal ?_
  have hm4' := hm4
  have Hm4 := Lib.hid hm4'
  clear hm4'
  rcases hj4 with rfl | rfl | rfl | rfl
  · have hjj := Hj.out
    clear Hj
    go_wp2
    refine bodyPost_ret (results_none rfl _ _ _) rfl ?_
    exact ⟨rfl, HC2.out ▸ hd4, hm4.mono (by omega), T4.out⟩
  · have hjj := Hj.out
    clear Hj
    go_wp2_with (first
      | (refine wpList_run (o := ⟨some 34, _, _, _, _, _⟩) rfl (exec_load (ty := 115) (x := .tmp 33) rfl rfl (load_sector (wt_sec x hb4) _ rfl)) ?_)
      | (refine wpList_store_row rfl 115 (.tmp 5) (.tmp 34) rfl (bcs x.2.2.1).toArray hB4 rfl rfl (by rw [← sec_size, ← sec_size]) (size_sec _) (sec_one _) ?_; intro w5 hB5 ht5))
    have hd5 : Blk w5 db 88 C2 := hd4.turn (F := only D) ht5 HDdb
    have hb5 : Blk w5 G 117 (wtCells x).toArray := hb4.turn (F := only D) ht5 (Ne.symm hDG)
    have hm5 : MapAt w5 kI eS fl n1 ff := hm4.turn ht5 (Hfl.out)
    have Ht5 := Lib.hid (T4.out.trans ht5 (fun k hk e => (HDw.out k hk e).elim))
    have c5 : w5.cell? ⟨db, o + 1, none⟩ = some (.map (some fl)) := (hd5.cell _).trans Q1.out
    have g5 : w5.cell? ⟨G, 1, none⟩ = some (.int .i64 x.2.1) := (hb5.cell 1).trans (by simp [wtCells])
    clear ht5
    refine wp_region_still_tail 7 (by kernel_rfl) (by kernel_rfl) ?_
    simp only [List.take_succ_cons, List.take_zero, List.drop_succ_cons, List.drop_zero]
    iterate 6 still_step
    refine wpStill_load rfl _ _ rfl _ _ rfl (load_blk (s := bootSec 1 old x.2.2) hB5 _ rfl) ?_
    refine wpStill_nil ?_
    change wpList _ _ _ _ _ w5.drew
    refine wpList_mapUpdate_at rfl _ _ _ _ rfl hm5.drew map_sector (by unfold maxLen; omega) hx (bootSec 1 old x.2.2) rfl rfl rfl ?_
    intro w6 hm6 hg6
    have hd6 : Blk w6 db 88 C2 := hd5.drew.grown hg6 (fun e => Hne (Option.some.inj e))
    have t6 := Ht5.out.drew.grown hg6 (fun g e _ => .inr (Option.some.inj e).symm)
    go_wp2
    go_end0
    refine ⟨rfl, HC2.out ▸ hd6, ?_, t6⟩
    rw [show bootFl 1 x.2.1 x.2.2 ff = upd ff x.2.1 (bootSec 1 ((ff x.2.1).getD zeroSec) x.2.2) from by unfold bootFl; rw [if_neg (by decide)], ← Ho.out]
    exact hm6
  · have hjj := Hj.out
    clear Hj
    go_wp2_with fail
    go_still_tail 3, (by kernel_rfl)
    change wpList _ _ _ _ _ w4.drew
    refine wpList_copy_bytes rfl _ _ rfl (n := 32) (off := 0) old.1 (x.2.2.1.take 32) hB4.drew (g2 := G) (o2 := 2) (range_take (wt_sec x hb4) 32) (by simp [x.2.2.2]) rfl rfl (by rw [old.2]; omega) ?_
    intro w5 hB5 ht5'
    have ht5 : Turn (only D) w4 w5 := ((Turn.refl _ _).drew).trans ht5' (fun _ _ e => e)
    clear ht5'
    go_wp2_with fail
    have hd5 : Blk w5 db 88 C2 := hd4.turn (F := only D) ht5 HDdb
    have hb5 : Blk w5 G 117 (wtCells x).toArray := hb4.turn (F := only D) ht5 (Ne.symm hDG)
    have hm5 : MapAt w5 kI eS fl n1 ff := hm4.turn ht5 (Hfl.out)
    have Ht5 := Lib.hid (T4.out.trans ht5 (fun k hk e => (HDw.out k hk e).elim))
    have c5 : w5.cell? ⟨db, o + 1, none⟩ = some (.map (some fl)) := (hd5.cell _).trans Q1.out
    have g5 : w5.cell? ⟨G, 1, none⟩ = some (.int .i64 x.2.1) := (hb5.cell 1).trans (by simp [wtCells])
    clear ht5
    refine wp_region_still_tail 7 (by kernel_rfl) (by kernel_rfl) ?_
    simp only [List.take_succ_cons, List.take_zero, List.drop_succ_cons, List.drop_zero]
    iterate 6 still_step
    refine wpStill_load rfl _ _ rfl _ _ rfl (load_blk (s := bootSec 2 old x.2.2) hB5 _ rfl) ?_
    refine wpStill_nil ?_
    change wpList _ _ _ _ _ w5.drew
    refine wpList_mapUpdate_at rfl _ _ _ _ rfl hm5.drew map_sector (by unfold maxLen; omega) hx (bootSec 2 old x.2.2) rfl rfl rfl ?_
    intro w6 hm6 hg6
    have hd6 : Blk w6 db 88 C2 := hd5.drew.grown hg6 (fun e => Hne (Option.some.inj e))
    have t6 := Ht5.out.drew.grown hg6 (fun g e _ => .inr (Option.some.inj e).symm)
    go_wp2
    go_end0
    refine ⟨rfl, HC2.out ▸ hd6, ?_, t6⟩
    rw [show bootFl 2 x.2.1 x.2.2 ff = upd ff x.2.1 (bootSec 2 ((ff x.2.1).getD zeroSec) x.2.2) from by unfold bootFl; rw [if_neg (by decide)], ← Ho.out]
    exact hm6
  · have hjj := Hj.out
    clear Hj
    go_wp2_with fail
    go_still_tail 3, (by kernel_rfl)
    change wpList _ _ _ _ _ w4.drew
    refine wpList_copy_bytes rfl _ _ rfl (n := 32) (off := 32) old.1 (x.2.2.1.drop 32) hB4.drew (g2 := G) (o2 := 34) (range_drop (wt_sec x hb4) 32) (by simp [x.2.2.2]) rfl rfl (by rw [old.2]; omega) ?_
    rw [show old.1.take 32 ++ x.2.2.1.drop 32 ++ old.1.drop (32 + 32) = (bootSec 3 old x.2.2).1 from by
      rw [show old.1.drop (32 + 32) = [] from List.drop_eq_nil_of_le (by rw [old.2]; omega), List.append_nil]
      rfl]
    intro w5 hB5 ht5'
    have ht5 : Turn (only D) w4 w5 := ((Turn.refl _ _).drew).trans ht5' (fun _ _ e => e)
    clear ht5'
    go_wp2_with fail
    have hd5 : Blk w5 db 88 C2 := hd4.turn (F := only D) ht5 HDdb
    have hb5 : Blk w5 G 117 (wtCells x).toArray := hb4.turn (F := only D) ht5 (Ne.symm hDG)
    have hm5 : MapAt w5 kI eS fl n1 ff := hm4.turn ht5 (Hfl.out)
    have Ht5 := Lib.hid (T4.out.trans ht5 (fun k hk e => (HDw.out k hk e).elim))
    have c5 : w5.cell? ⟨db, o + 1, none⟩ = some (.map (some fl)) := (hd5.cell _).trans Q1.out
    have g5 : w5.cell? ⟨G, 1, none⟩ = some (.int .i64 x.2.1) := (hb5.cell 1).trans (by simp [wtCells])
    clear ht5
    refine wp_region_still_tail 7 (by kernel_rfl) (by kernel_rfl) ?_
    simp only [List.take_succ_cons, List.take_zero, List.drop_succ_cons, List.drop_zero]
    iterate 6 still_step
    refine wpStill_load rfl _ _ rfl _ _ rfl (load_blk (s := bootSec 3 old x.2.2) hB5 _ rfl) ?_
    refine wpStill_nil ?_
    change wpList _ _ _ _ _ w5.drew
    refine wpList_mapUpdate_at rfl _ _ _ _ rfl hm5.drew map_sector (by unfold maxLen; omega) hx (bootSec 3 old x.2.2) rfl rfl rfl ?_
    intro w6 hm6 hg6
    have hd6 : Blk w6 db 88 C2 := hd5.drew.grown hg6 (fun e => Hne (Option.some.inj e))
    have t6 := Ht5.out.drew.grown hg6 (fun g e _ => .inr (Option.some.inj e).symm)
    go_wp2
    go_end0
    refine ⟨rfl, HC2.out ▸ hd6, ?_, t6⟩
    rw [show bootFl 3 x.2.1 x.2.2 ff = upd ff x.2.1 (bootSec 3 ((ff x.2.1).getD zeroSec) x.2.2) from by unfold bootFl; rw [if_neg (by decide)], ← Ho.out]
    exact hm6
end Go.Proofs.YtelipeoilcepbaaDoor
namespace Go.Proofs.YtelipeoilcepbaaDoor
open Go.RowKit Go.Maps
set_option maxRecDepth 20000
set_option linter.unusedVariables false
structure AD where
  n : Int
  fl : Int → Option Sec
  ws : List Wt
structure AP where
  ds : List AD
  on : Bool
  fuse : Int
  steps : Int
def lastW (ws : List Wt) : Int → Option Sec := ws.foldl (fun f x => upd f x.2.1 x.2.2) (fun _ => none)
theorem lastW_snoc (ws : List Wt) (x : Wt) : lastW (ws ++ [x]) = upd (lastW ws) x.2.1 x.2.2 := by simp [lastW, List.foldl_append]
structure DV where
  fl : Nat
  nw : Nat
  wv : Value
def DV.has (v : DV) (b : Nat) : Prop := b = v.fl ∨ b = v.nw ∨ v.wv.ownBlock = some b
structure DiskAt (w : World) (C : Array Value) (i : Nat) (d : AD) (v : DV) (K : Nat) : Prop where
  c0 : C[i * 4]? = some (.int .i64 d.n)
  c1 : C[i * 4 + 1]? = some (.map (some v.fl))
  c2 : C[i * 4 + 2]? = some (.map (some v.nw))
  c3 : C[i * 4 + 3]? = some v.wv
  ne : v.fl ≠ v.nw
  fl : ∃ n1, n1 + d.ws.length ≤ K ∧ MapAt w kI eS v.fl n1 d.fl
  nw : MapAt w kI eS v.nw d.ws.length (lastW d.ws)
  ws : Waits w v.wv d.ws
  wf : ∀ x ∈ d.ws, (Lit.int .i64 x.2.1).wf = true
  n0 : 1 ≤ d.n ∧ d.n ≤ 65536
theorem DiskAt.keep {w w' : World} {C C' : Array Value} {i : Nat} {d : AD} {v : DV} {K K' : Nat} (h : DiskAt w C i d v K) (hb : ∀ b, v.has b → w'.heap[b]? = w.heap[b]?) (hC : ∀ j, j < 4 → C'[i * 4 + j]? = C[i * 4 + j]?) (hK : K ≤ K') : DiskAt w' C' i d v K' where
  c0 := (hC 0 (by omega)).trans h.c0
  c1 := (hC 1 (by omega)).trans h.c1
  c2 := (hC 2 (by omega)).trans h.c2
  c3 := (hC 3 (by omega)).trans h.c3
  ne := h.ne
  fl := by
    obtain ⟨n1, h1, h2⟩ := h.fl
    exact ⟨n1, by omega, h2.block (hb _ (.inl rfl))⟩
  nw := h.nw.block (hb _ (.inr (.inl rfl)))
  ws := h.ws.keep fun g hg => hb g (.inr (.inr hg))
  wf := h.wf
  n0 := h.n0
structure DisksAt (w : World) (db : Nat) (C : Array Value) (ds : List AD) (dv : Nat → DV) (K : Nat) : Prop where
  blk : Blk w db 88 C
  size : ds.length * 4 ≤ C.size
  at_ : ∀ i d, ds[i]? = some d → DiskAt w C i d (dv i) K
  apart : ∀ i j, i < ds.length → j < ds.length → i ≠ j → ∀ b, (dv i).has b → ¬ (dv j).has b
def PlF (p db n : Nat) (dv : Nat → DV) (b : Nat) : Prop := b = p ∨ b = db ∨ ∃ i, i < n ∧ (dv i).has b
def PlantAt (w : World) (p : Nat) (F : Nat → Prop) (s : AP) (K : Nat) : Prop :=
  ∃ db cap C dv, Blk w p 82 (plantCells db s.ds.length cap s.on s.fuse s.steps) ∧ DisksAt w db C s.ds dv K ∧ F = PlF p db s.ds.length dv ∧
    1 ≤ s.ds.length ∧ s.ds.length ≤ 4 ∧ -9223372036854775808 ≤ s.fuse ∧ s.fuse ≤ 9223372036854775807 ∧ 0 ≤ s.steps ∧ s.steps ≤ K
def Goes2 (w : World) (p : Nat) (F : Nat → Prop) (w' : World) (s' : AP) (K' : Nat) : Prop :=
  ∃ F', PlantAt w' p F' s' K' ∧ Turn F w w' ∧ ∀ k, F' k → F k ∨ w.heap.size ≤ k
section
variable {w w' : World} {p db : Nat} {C : Array Value} {ds : List AD} {dv : Nat → DV} {K : Nat} {F : Nat → Prop} {s : AP}
theorem DisksAt.lt (h : DisksAt w db C ds dv K) {i b : Nat} (hi : i < ds.length) (hb : (dv i).has b) : b < w.heap.size := by
  have hd := h.at_ i ds[i] (List.getElem?_eq_getElem hi)
  rcases hb with rfl | rfl | hb
  · obtain ⟨_, _, hm⟩ := hd.fl
    exact hm.lt
  · exact hd.nw.lt
  · exact (hd.ws.lt b hb).2
theorem DisksAt.ne (h : DisksAt w db C ds dv K) {i b g : Nat} {t : TypeId} {cs : Array Value} (hi : i < ds.length) (hb : (dv i).has b) (hg : Blk w g t cs) (ht : t ≠ 117) : g ≠ b := by
  have hd := h.at_ i ds[i] (List.getElem?_eq_getElem hi)
  rcases hb with rfl | rfl | hb
  · obtain ⟨_, _, hm⟩ := hd.fl
    exact hm.ne hg
  · exact hd.nw.ne hg
  · rcases hd.ws.2 with ⟨e1, _⟩ | ⟨g', cap, cur, e1, _, h4, _⟩
    · rw [e1] at hb
      cases hb
    · rw [e1] at hb
      injection hb with hb
      have hb' : g' = b := hb
      subst hb'
      exact Blk.ne_ hg (g' := g') (cs' := cur) h4 ht
theorem DisksAt.keep (h : DisksAt w db C ds dv K) (hdb : w'.heap[db]? = w.heap[db]?) (hb : ∀ i, i < ds.length → ∀ b, (dv i).has b → w'.heap[b]? = w.heap[b]?) {K' : Nat} (hK : K ≤ K') : DisksAt w' db C ds dv K' where
  blk := hdb.trans h.blk
  size := h.size
  at_ i d hi := (h.at_ i d hi).keep (hb i (List.getElem?_eq_some_iff.1 hi).1) (fun _ _ => rfl) hK
  apart := h.apart
theorem PlantAt.lt (h : PlantAt w p F s K) {k : Nat} (hk : F k) : k < w.heap.size := by
  obtain ⟨db, cap, C, dv, h1, h2, rfl, _⟩ := h
  rcases hk with rfl | rfl | ⟨i, hi, hb⟩
  · exact h1.lt
  · exact h2.blk.lt
  · exact h2.lt hi hb
theorem PlantAt.keep (h : PlantAt w p F s K) (hb : ∀ k, F k → w'.heap[k]? = w.heap[k]?) : PlantAt w' p F s K := by
  obtain ⟨db, cap, C, dv, h1, h2, rfl, h3⟩ := h
  exact ⟨db, cap, C, dv, (hb p (.inl rfl)).trans h1, h2.keep (hb db (.inr (.inl rfl))) (fun i hi b hb' => hb b (.inr (.inr ⟨i, hi, hb'⟩))) (Nat.le_refl _), rfl, h3⟩
theorem PlantAt.turn {G : Nat → Prop} (h : PlantAt w p F s K) (ht : Turn G w w') (hG : ∀ k, F k → ¬ G k) : PlantAt w' p F s K := h.keep fun k hk => ht.block k (h.lt hk) (hG k hk)
theorem PlantAt.mono (h : PlantAt w p F s K) {K' : Nat} (hK : K ≤ K') : PlantAt w p F s K' := by
  obtain ⟨db, cap, C, dv, h1, h2, h3, h4, h5, h6, h7, h8, h9⟩ := h
  exact ⟨db, cap, C, dv, h1, h2.keep rfl (fun _ _ _ _ => rfl) hK, h3, h4, h5, h6, h7, h8, by omega⟩
theorem PlantAt.top {on : Bool} {fuse steps : Int} (h : PlantAt w p F s K) {db cap : Nat} {C : Array Value} {dv : Nat → DV} (h1 : Blk w' p 82 (plantCells db s.ds.length cap on fuse steps)) (h2 : DisksAt w db C s.ds dv K) (hF : F = PlF p db s.ds.length dv) (ht : Turn (only p) w w')
    (hb : Blk w p 82 (plantCells db s.ds.length cap s.on s.fuse s.steps)) {K' : Nat} (hK : K ≤ K') (q1 : -9223372036854775808 ≤ fuse) (q2 : fuse ≤ 9223372036854775807) (q3 : 0 ≤ steps) (q4 : steps ≤ K') :
    Goes2 w p F w' { s with on := on, fuse := fuse, steps := steps } K' := by
  obtain ⟨_, _, _, _, _, _, _, g1, g2, _⟩ := id h
  refine ⟨F, ⟨db, cap, C, dv, h1, h2.keep (ht.block _ h2.blk.lt ?_) (fun i hi b hb' => ht.block _ (h2.lt hi hb') ?_) hK, hF, g1, g2, q1, q2, q3, q4⟩, ht.mono ?_, fun k hk => .inl hk⟩
  · exact Blk.ne_ h2.blk hb (by decide)
  · exact fun e => h2.ne hi hb' hb (by decide) e.symm
  · intro k _ e
    rw [hF]
    exact .inl e
end
end Go.Proofs.YtelipeoilcepbaaDoor
namespace Go.Proofs.YtelipeoilcepbaaDoor
open Go.RowKit Go.Maps
set_option maxRecDepth 20000
set_option linter.unusedVariables false
def AD.read (d : AD) (place : Int) : Sec := reads (lastW d.ws) d.fl place
section
variable {w : World} {p : Nat} {F : Nat → Prop} {s : AP} {K : Nat}
theorem refP_bad (h : PlantAt w p F s K) (dev place k : Int) (hk : refuseCode s.on s.ds.length dev = k) (h2 : k = 2 ∨ k = 31) :
    Calls Tryd.prog 66 #[.pointer (some ⟨p, 0, none⟩), .int .i64 dev, .int .i64 place] w fun e w' => e = .returned (.int .i64 k) ∧ w = w' := by
  obtain ⟨db, cap, C, dv, h1, hD, _⟩ := h
  exact refusePlace_bad p db _ cap _ _ _ dev place w h1 k hk h2
theorem refP_good (h : PlantAt w p F s K) (i : Nat) (d : AD) (hd : s.ds[i]? = some d) (hon : s.on = true) (place : Int) :
    Calls Tryd.prog 66 #[.pointer (some ⟨p, 0, none⟩), .int .i64 (i : Int), .int .i64 place] w fun e w' => e = .returned (.int .i64 (if 0 ≤ place ∧ place < d.n then 0 else 31)) ∧ w = w' := by
  obtain ⟨db, cap, C, dv, h1, hD, _, _, h4, _⟩ := h
  rw [hon] at h1
  exact refusePlace_good p db _ cap _ _ place w C d.n i h1 hD.blk (List.getElem?_eq_some_iff.1 hd).1 (hD.at_ i d hd).c0 h4
def badPlace (s : AP) (dev place k : Int) : Prop :=
  (refuseCode s.on s.ds.length dev = k ∧ (k = 2 ∨ k = 31)) ∨ (s.on = true ∧ k = 31 ∧ ∃ (i : Nat) (d : AD), dev = i ∧ s.ds[i]? = some d ∧ ¬ (0 ≤ place ∧ place < d.n))
theorem refP_any (h : PlantAt w p F s K) (dev place k : Int) (hk : badPlace s dev place k) :
    Calls Tryd.prog 66 #[.pointer (some ⟨p, 0, none⟩), .int .i64 dev, .int .i64 place] w fun e w' => e = .returned (.int .i64 k) ∧ w = w' := by
  rcases hk with ⟨h1, h2⟩ | ⟨hon, rfl, i, d, rfl, hd, hp⟩
  · exact refP_bad h dev place k h1 h2
  · refine (refP_good h i d hd hon place).mono fun e w' ⟨he, hw⟩ => ⟨?_, hw⟩
    rw [he, if_neg hp]
theorem bad_k {s : AP} {dev place k : Int} (hk : badPlace s dev place k) : k = 2 ∨ k = 31 := by
  rcases hk with ⟨_, h2⟩ | ⟨_, h2, _⟩
  · exact h2
  · exact .inr h2
theorem read_bad (h : PlantAt w p F s K) (dev place k : Int) (hk : badPlace s dev place k) :
    Calls Tryd.prog 61 #[.pointer (some ⟨p, 0, none⟩), .int .i64 dev, .int .i64 place] w fun e w' => e = .returned (.tuple #[.slice none 0 0, .int .i64 k]) ∧ w = w' := by
  have hq := refP_any h dev place k hk
  have hk2 := bad_k hk
  have Hq := Lib.hid hq
  clear hq hk
  rcases hk2 with rfl | rfl
  all_goals
    go_enter Tryd.func61, Tryd.ntmps61
    go_wp2_with (go_at_call 66; refine Hq.out.mono ?_; rintro e w' ⟨rfl, rfl⟩)
    go_ret2
    exact ⟨rfl, rfl⟩
theorem refP_ok (h : PlantAt w p F s K) (i : Nat) (d : AD) (hd : s.ds[i]? = some d) (hon : s.on = true) (place : Int) (hp : 0 ≤ place ∧ place < d.n) :
    Calls Tryd.prog 66 #[.pointer (some ⟨p, 0, none⟩), .int .i64 (i : Int), .int .i64 place] w fun e w' => e = .returned (.int .i64 0) ∧ w = w' := by
  refine (refP_good h i d hd hon place).mono fun e w' ⟨he, hw⟩ => ⟨?_, hw⟩
  rw [he, if_pos hp]
theorem place_wf {n place : Int} (h : 1 ≤ n ∧ n ≤ 65536) (hp : 0 ≤ place ∧ place < n) : (Lit.int .i64 place).wf = true := WalkArith.wf_i64 (by omega)
theorem read_ok (h : PlantAt w p F s K) (i : Nat) (d : AD) (hd : s.ds[i]? = some d) (hon : s.on = true) (place : Int) (hp : 0 ≤ place ∧ place < d.n) :
    Calls Tryd.prog 61 #[.pointer (some ⟨p, 0, none⟩), .int .i64 (i : Int), .int .i64 place] w fun e w' =>
      ∃ R, e = .returned (.tuple #[.slice (some ⟨R, 0, none⟩) 64 64, .int .i64 0]) ∧ w.heap.size ≤ R ∧ Blk w' R 115 (bcs (d.read place).1).toArray ∧ Turn nowhere w w' := by
  have hq := refP_ok h i d hd hon place hp
  obtain ⟨db, cap, C, dv, h1, hD, _, _, h4, _⟩ := id h
  have hi := (List.getElem?_eq_some_iff.1 hd).1
  have hA := hD.at_ i d hd
  obtain ⟨n1, _, hfl⟩ := hA.fl
  have hcall := read_walk db (i * 4) (dv i).nw (dv i).fl n1 d.ws.length (lastW d.ws) d.fl place C w hD.blk hA.c1 hA.c2 hfl hA.nw (place_wf hA.n0 hp)
  have hb := hD.blk
  have c0 : w.cell? ⟨p, 0, none⟩ = some (.slice (some ⟨db, 0, none⟩) s.ds.length cap) := h1.cell 0
  have z1 : (0 : Int) ≤ (i : Int) := by omega
  have z2 : (i : Int) < (s.ds.length : Int) := by omega
  have Hq := Lib.hid hq
  have Hc := Lib.hid hcall
  clear hq hcall hfl hA h hb h1 hD hd hon h4
  have hz := zero_sector
  generalize s.ds.length = n at *
  go_enter Tryd.func61, Tryd.ntmps61
  go_wp2_with (first
    | (go_at_call 66; refine Hq.out.mono ?_; rintro e w' ⟨rfl, rfl⟩)
    | (go_at_call 77; refine Hc.out.mono ?_; rintro e w1 ⟨rfl, ht1⟩)
    | (refine wpList_store_row rfl 115 (.tmp 9) (.tmp 24) rfl (bcs (d.read place).1).toArray (Blk.new w1 _ _) rfl rfl (sec_size _) (size_sec _) (sec_one _) ?_; intro w2 hb2 ht2))
  go_ret2
  exact ⟨w1.heap.size, rfl, ht1.size, hb2, (ht1.alloc _).trans ht2 (fun k hk e => by
    have e' : k = w1.heap.size := e
    have := ht1.size
    omega)⟩
theorem foldl_splice (vs : Array Value) (off : Nat) (cells : Array Value) : vs.zipIdx.foldl (fun cs (x : Value × Nat) => cs.setIfInBounds (off + x.2) x.1) cells = (vs.toList.zipIdx 0).foldl (fun cs (x : Value × Nat) => cs.setIfInBounds (off + x.2) x.1) cells := by
  have hz : vs.zipIdx = (vs.toList.zipIdx 0).toArray := by
    apply Array.ext'
    simp [Array.toList_zipIdx]
  rw [hz, List.foldl_toArray]
theorem fill_write (a b : Int) (s : Sec) : Instr.fill (fun i => ([(0, 1), (1, 1), (2, 64)] : List (Nat × Nat)).toArray[i]?) (wtCells (0, 0, zeroSec)).toArray [(0, .int .i64 a), (1, .int .i64 b), (2, rowV s.1)] = some (wtCells (a, b, s)).toArray := by
  have h1 : (wtCells (0, 0, zeroSec)).toArray.size = 66 := by simp [wtCells_length]
  have h2 : (bcs s.1).toArray.size = 64 := (sec_size s).symm
  have e : ∀ (f : Nat → Option (Nat × Nat)) (c : Array Value) (i o n : Nat) (v : Value) (r : List (Nat × Value)), f i = some (o, n) → v.cells.size = n → o + n ≤ c.size →
      Instr.fill f c ((i, v) :: r) = Instr.fill f ((v.cells.toList.zipIdx 0).foldl (fun cs (x : Value × Nat) => cs.setIfInBounds (o + x.2) x.1) c) r := by
    intro f c i o n v r hf hn ho
    rw [Instr.fill]
    simp only [hf]
    rw [if_neg (by simp [hn]; omega), foldl_splice]
  rw [e _ _ 0 0 1 _ _ rfl rfl (by omega), e _ _ 1 1 1 _ _ rfl rfl (by rw [(splice_at _ _ _ _).1]; omega), e _ _ 2 2 64 _ _ rfl (by simpa [rowV, Value.cells] using h2) (by rw [(splice_at _ _ _ _).1, (splice_at _ _ _ _).1]; omega), Instr.fill]
  congr 1
  apply Array.ext_getElem?
  intro j
  rw [(splice_at _ _ _ _).2, (splice_at _ _ _ _).1, (splice_at _ _ _ _).1, h1]
  have h3 : (rowV s.1).cells.toList = bcs s.1 := rfl
  have h4 : (bcs s.1).length = 64 := by rw [bcs_length, s.2]
  rw [h3, h4]
  by_cases hj : 2 ≤ j ∧ j < 66
  · rw [if_pos ⟨by omega, by omega, by omega⟩]
    obtain ⟨m, rfl⟩ : ∃ m, j = m + 2 := ⟨j - 2, by omega⟩
    simp [wtCells]
  · rw [if_neg (by omega), (splice_at _ _ _ _).2, (splice_at _ _ _ _).1, h1, (splice_at _ _ _ _).2, h1]
    have h5 : (Value.int IntKind.i64 b).cells.toList = [.int .i64 b] := rfl
    have h6 : (Value.int IntKind.i64 a).cells.toList = [.int .i64 a] := rfl
    rw [h5, h6]
    by_cases h0 : j = 0
    · subst h0
      simp [wtCells]
    · by_cases h1' : j = 1
      · subst h1'
        simp [wtCells]
      · rw [if_neg (by simp; omega), if_neg (by simp; omega), Array.getElem?_eq_none (by omega), Array.getElem?_eq_none (by simp [wtCells_length]; omega)]
theorem build_write (a b : Int) (s : Sec) (W : World) : (Instr.build 117 #[(0, .int .i64 a), (1, .int .i64 b), (2, rowV s.1)]).run Tryd.prog W = .ok (.agg (wtCells (a, b, s)).toArray) W := by
  refine run_build W _ _ _ ?_
  obtain ⟨i0, hi0, hz0, hz1, hz2⟩ := info_parts info_write
  have hp : (match Tryd.prog.underlying 117 with | some (.struct fs) => fs.toList.mapM (fun f => (Tryd.prog.info? f.type).map fun i => (f.offset, i.size)) | _ => none) = some [(0, 1), (1, 1), (2, 64)] := by kernel_rfl
  have hu := Tryd.underlying117
  rw [hu] at hp
  unfold Program.built
  simp only [hi0, hu, hz0]
  simp only at hp
  rw [hp]
  exact fill_write a b s
end
end Go.Proofs.YtelipeoilcepbaaDoor
namespace Go.Proofs.YtelipeoilcepbaaDoor
open Go.RowKit Go.Maps
set_option maxRecDepth 20000
set_option linter.unusedVariables false
def setV (dv : Nat → DV) (i : Nat) (v : DV) : Nat → DV := fun j => if j = i then v else dv j
section
variable {w w' : World} {p db : Nat} {C C' : Array Value} {ds : List AD} {dv : Nat → DV} {K K' : Nat} {F : Nat → Prop} {s : AP}
theorem DisksAt.upd (h : DisksAt w db C ds dv K) {i : Nat} (hi : i < ds.length) {d' : AD} {v' : DV} (hb : Blk w' db 88 C') (hs : C'.size = C.size) (hC : ∀ j, j < i * 4 ∨ i * 4 + 4 ≤ j → C'[j]? = C[j]?)
    (hd : DiskAt w' C' i d' v' K') (hK : K ≤ K') (ht : Turn (fun k => k = db ∨ (dv i).has k) w w') (hv : ∀ b, v'.has b → (dv i).has b ∨ w.heap.size ≤ b) : DisksAt w' db C' (ds.set i d') (setV dv i v') K' := by
  refine ⟨hb, by rw [List.length_set, hs]; exact h.size, fun j d hj => ?_, fun j k hj hk hjk b hb1 hb2 => ?_⟩
  · have hjl := (List.getElem?_eq_some_iff.1 hj).1
    rw [List.length_set] at hjl
    by_cases e : j = i
    · subst e
      rw [List.getElem?_set, if_pos rfl, if_pos hi] at hj
      cases hj
      unfold setV
      rw [if_pos rfl]
      exact hd
    · rw [List.getElem?_set, if_neg (Ne.symm e)] at hj
      unfold setV
      rw [if_neg e]
      refine (h.at_ j d hj).keep (fun b hb' => ht.block b (h.lt hjl hb') ?_) (fun m hm => hC _ (by omega)) hK
      rintro (rfl | hb2)
      · exact h.ne hjl hb' h.blk (by decide) rfl
      · exact h.apart j i hjl hi e b hb' hb2
  · rw [List.length_set] at hj hk
    unfold setV at hb1 hb2
    by_cases e : j = i
    · subst e
      rw [if_pos rfl] at hb1
      rw [if_neg (Ne.symm hjk)] at hb2
      rcases hv b hb1 with h1 | h1
      · exact h.apart j k hj hk hjk b h1 hb2
      · exact absurd (h.lt hk hb2) (by omega)
    · rw [if_neg e] at hb1
      by_cases e2 : k = i
      · subst e2
        rw [if_pos rfl] at hb2
        rcases hv b hb2 with h1 | h1
        · exact h.apart j k hj hk hjk b hb1 h1
        · exact absurd (h.lt hj hb1) (by omega)
      · rw [if_neg e2] at hb2
        exact h.apart j k hj hk hjk b hb1 hb2
theorem plf_upd {i n : Nat} {v' : DV} {m : Nat} (hi : i < n) (hv : ∀ b, v'.has b → (dv i).has b ∨ m ≤ b) : ∀ k, PlF p db n (setV dv i v') k → PlF p db n dv k ∨ m ≤ k := by
  rintro k (rfl | rfl | ⟨j, hj, hb⟩)
  · exact .inl (.inl rfl)
  · exact .inl (.inr (.inl rfl))
  · unfold setV at hb
    by_cases e : j = i
    · subst e
      rw [if_pos rfl] at hb
      rcases hv k hb with h1 | h1
      · exact .inl (.inr (.inr ⟨j, hj, h1⟩))
      · exact .inr h1
    · rw [if_neg e] at hb
      exact .inl (.inr (.inr ⟨j, hj, hb⟩))
theorem set3 (C : Array Value) (i : Nat) (v : Value) (h : i * 4 + 4 ≤ C.size) : (∀ j, j < i * 4 ∨ i * 4 + 4 ≤ j → (C.setIfInBounds (i * 4 + 3) v)[j]? = C[j]?) ∧ (C.setIfInBounds (i * 4 + 3) v)[i * 4 + 3]? = some v ∧ (∀ j, j < 3 → (C.setIfInBounds (i * 4 + 3) v)[i * 4 + j]? = C[i * 4 + j]?) := by
  refine ⟨fun j hj => ?_, ?_, fun j hj => ?_⟩
  · rw [Array.getElem?_setIfInBounds, if_neg (by omega)]
  · rw [Array.getElem?_setIfInBounds, if_pos rfl, if_pos (by omega)]
  · rw [Array.getElem?_setIfInBounds, if_neg (by omega)]
def AP.put (s : AP) (i : Nat) (d : AD) (place : Int) (b : Sec) : AP := { s with fuse := burnt s.fuse, steps := s.steps + 1, ds := s.ds.set i { d with ws := d.ws ++ [(s.steps + 1, place, b)] } }
def AP.burn (s : AP) : AP := { s with on := false, fuse := -1 }
theorem step_burnP (h : PlantAt w p F s K) (h0 : s.fuse = 0) :
    Calls Tryd.prog 67 #[.pointer (some ⟨p, 0, none⟩)] w fun e w' => e = .returned (.int .i64 2) ∧ Goes2 w p F w' s.burn K := by
  obtain ⟨db, cap, C, dv, h1, hD, hF, g1, g2, g3, g4, g5, g6⟩ := id h
  have h1' := h1
  rw [h0] at h1'
  refine (step_burn p db _ cap _ _ w h1').mono fun e w' ⟨he, hb, ht⟩ => ⟨he, ?_⟩
  exact h.top hb hD hF ht h1 (Nat.le_refl _) (by omega) (by omega) g5 g6
theorem plant_u8 (db n c : Nat) (on : Bool) (fuse steps : Int) (j : Nat) (v : Int) : (plantCells db n c on fuse steps)[j]? ≠ some (.int .u8 v) := by
  match j with
  | 0 => simp [plantCells]
  | 1 => simp [plantCells]
  | 2 => simp [plantCells]
  | 3 => simp [plantCells]
  | j + 4 => simp [plantCells]
theorem bs_not_plant {a : Option Addr} {n : Nat} {bs : List UInt8} (hb : Bs w a n bs) (hn : 0 < n) {db m c : Nat} {on : Bool} {fuse steps : Int} (h1 : Blk w p 82 (plantCells db m c on fuse steps)) : ∃ b off, a = some ⟨b, off, none⟩ ∧ b ≠ p ∧ b < w.heap.size ∧ w.rangeAt b off (bcs bs) := by
  obtain ⟨hl, _, hc⟩ := hb
  obtain ⟨b, off, rfl, hcell⟩ := hc hn
  refine ⟨b, off, rfl, ?_, World.block_lt_of_cell? _ _ (hcell 0 hn), fun j v hv => ?_⟩
  · rintro rfl
    have := hcell 0 hn
    rw [h1.cell] at this
    exact plant_u8 _ _ _ _ _ _ _ _ this
  · have hj : j < bs.length := by
      have := (List.getElem?_eq_some_iff.1 hv).1
      rwa [bcs_length] at this
    rw [bcs_at bs j hj] at hv
    cases hv
    exact hcell j (by omega)
theorem write_bad (h : PlantAt w p F s K) (dev place k : Int) (hk : badPlace s dev place k) (a : Option Addr) (len cap : Nat) :
    Calls Tryd.prog 52 #[.pointer (some ⟨p, 0, none⟩), .int .i64 dev, .int .i64 place, .slice a len cap] w fun e w' => e = .returned (.int .i64 k) ∧ w = w' := by
  have hq := refP_any h dev place k hk
  have hk2 := bad_k hk
  have Hq := Lib.hid hq
  clear hq hk
  rcases hk2 with rfl | rfl
  all_goals
    go_enter Tryd.func52, Tryd.ntmps52
    go_wp2_with (go_at_call 66; refine Hq.out.mono ?_; rintro e w' ⟨rfl, rfl⟩)
    go_ret
    exact ⟨rfl, rfl⟩
theorem write_burn (h : PlantAt w p F s K) (i : Nat) (d : AD) (hd : s.ds[i]? = some d) (hon : s.on = true) (place : Int) (hp : 0 ≤ place ∧ place < d.n) (h0 : s.fuse = 0) (a : Option Addr) (cap : Nat) :
    Calls Tryd.prog 52 #[.pointer (some ⟨p, 0, none⟩), .int .i64 (i : Int), .int .i64 place, .slice a 64 cap] w fun e w' => e = .returned (.int .i64 2) ∧ Goes2 w p F w' s.burn K := by
  have hq := refP_ok h i d hd hon place hp
  have hst := step_burnP h h0
  have Hq := Lib.hid hq
  have Hs := Lib.hid hst
  clear hq hd hon hst h0
  go_enter Tryd.func52, Tryd.ntmps52
  go_wp2_with (first
    | (go_at_call 66; refine Hq.out.mono ?_; rintro e w' ⟨rfl, rfl⟩)
    | (go_at_call 67; refine Hs.out.mono ?_; rintro e w1 ⟨rfl, hg⟩; have Hg := Lib.hid hg; clear hg))
  go_ret
  exact ⟨rfl, Hg.out⟩
end
end Go.Proofs.YtelipeoilcepbaaDoor
namespace Go.Proofs.YtelipeoilcepbaaDoor
open Go.RowKit Go.Maps
set_option maxRecDepth 20000
set_option linter.unusedVariables false
theorem Waits.ne_map {w : World} {v : Value} {ws : List Wt} {b n : Nat} {f : Int → Option Sec} (h : Waits w v ws) (hm : MapAt w kI eS b n f) : v.ownBlock ≠ some b := by
  intro hb
  rcases h.2 with ⟨e1, _⟩ | ⟨g', cap, cur, e1, _, h4, _⟩
  · rw [e1] at hb
    cases hb
  · rw [e1] at hb
    injection hb with hb
    have hb' : g' = b := hb
    exact hm.ne (g := g') (cs := cur) h4 hb'
theorem Waits.ne_blk {w : World} {v : Value} {ws : List Wt} {g : Nat} {t : TypeId} {cs : Array Value} (h : Waits w v ws) (hg : Blk w g t cs) (ht : t ≠ 117) : v.ownBlock ≠ some g := by
  intro hb
  rcases h.2 with ⟨e1, _⟩ | ⟨g', cap, cur, e1, _, h4, _⟩
  · rw [e1] at hb
    cases hb
  · rw [e1] at hb
    injection hb with hb
    have hb' : g' = g := hb
    subst hb'
    exact Blk.ne_ hg (g' := g') (cs' := cur) h4 ht rfl
section
variable {w w' : World} {p db : Nat} {C C' : Array Value} {ds : List AD} {dv : Nat → DV} {K K' : Nat} {F : Nat → Prop} {s : AP}
theorem exec_build3 {P : Program} {a : Act} {o : Oper} {t : TypeId} {x y z : Operand} {u v q r : Value} {W : World} (ho : o.op = .build t #[(0, x), (1, y), (2, z)]) (hx : a.eval x = u) (hy : a.eval y = v) (hz : a.eval z = q)
    (h : (Instr.build t #[(0, u), (1, v), (2, q)]).run P W = .ok r W) : (execOp a.eval o).run P W = .ok (.value r) W := by
  unfold execOp
  simp only [ho, List.map_toArray, List.map_cons, List.map_nil, hx, hy, hz, h, Sem.run_bind, Sem.run_pure, Result.andThen_ok]
theorem exec_arrayAt {a : Act} {o : Oper} {x : Operand} {A : Option Addr} {c : Nat} {W : World} (ho : o.op = .sliceToArrayPointer 115 x) (hx : a.eval x = .slice A 64 c) : (execOp a.eval o).run Tryd.prog W = .ok (.value (.pointer A)) W := by
  unfold execOp
  simp only [ho, hx]
  have hu := Tryd.underlying115
  simp [Instr.arrayAt, run_underlying hu, Result.andThen]
set_option maxHeartbeats 1000000 in
theorem write_ok (h : PlantAt w p F s K) (i : Nat) (d : AD) (hd : s.ds[i]? = some d) (hon : s.on = true) (place : Int) (hp : 0 ≤ place ∧ place < d.n) (h0 : s.fuse ≠ 0) (a : Option Addr) (cap : Nat) (b : Sec) (hb : Bs w a 64 b.1) (hK : K < 1099511627775) :
    Calls Tryd.prog 52 #[.pointer (some ⟨p, 0, none⟩), .int .i64 (i : Int), .int .i64 place, .slice a 64 cap] w fun e w' => e = .returned (.int .i64 0) ∧ Goes2 w p F w' (s.put i d place b) (K + 1) := by
  have hq := refP_ok h i d hd hon place hp
  obtain ⟨db, cp, C, dv, h1, hD, hF, g1, g2, g3, g4, g5, g6⟩ := id h
  have hi := (List.getElem?_eq_some_iff.1 hd).1
  have hA := hD.at_ i d hd
  have hst := step_on p db s.ds.length cp s.on s.fuse s.steps w h1 h0 g3 g4 g5 (by omega)
  obtain ⟨bb, off, rfl, hbp, hbl, hr⟩ := bs_not_plant hb (by omega) h1
  have hn1 := hA.fl
  have z1 : (0 : Int) ≤ (i : Int) := by omega
  have z2 : (i : Int) < (s.ds.length : Int) := by omega
  have Hq := Lib.hid hq
  have Hs := Lib.hid hst
  have H := Lib.hid h
  have HD := Lib.hid hD
  have Hd := Lib.hid hd
  have H1 := Lib.hid h1
  have HA := Lib.hid hA
  clear hq hd hst h0 hA hD h hb h1
  go_enter Tryd.func52, Tryd.ntmps52
  go_wp2_with (first
    | (go_at_call 66; refine Hq.out.mono ?_; rintro e w' ⟨rfl, rfl⟩)
    | (go_at_call 67; refine Hs.out.mono ?_; rintro e w1 ⟨rfl, hb1, ht1⟩; have HT := Lib.hid ht1; clear ht1))
  have c0 : w1.cell? ⟨p, 0, none⟩ = some (.slice (some ⟨db, 0, none⟩) s.ds.length cp) := hb1.cell 0
  have c3 : w1.cell? ⟨p, 3, none⟩ = some (.int .i64 (s.steps + 1)) := hb1.cell 3
  have hr1 : w1.rangeAt bb off (bcs b.1) := fun j v hv => by
    rw [HT.out.cell (p := ⟨bb, off + j, none⟩) hbl hbp]
    exact hr j v hv
  have Hr := Lib.hid hr1
  have Hn := Lib.hid hF
  clear hr1 hr hF
  generalize hnn : s.ds.length = n at *
  have HN := Lib.hid hnn
  clear hnn
  refine wp_region_still_tail 15 (by kernel_rfl) (by kernel_rfl) ?_
  simp only [List.take_succ_cons, List.take_zero, List.drop_succ_cons, List.drop_zero]
  iterate 12 still_step
  refine wpStill_run rfl (exec_arrayAt rfl rfl) ?_
  refine wpStill_load rfl _ _ rfl _ _ rfl (load_sector Hr.out _ rfl) ?_
  refine wpStill_run rfl (exec_build3 rfl rfl rfl rfl (build_write _ _ b _)) ?_
  refine wpStill_nil ?_
  change wpList _ _ _ _ _ w1.drew
  go_wp2_with fail
  obtain ⟨n1, hn1a, hn1b⟩ := hn1
  have hi : i < s.ds.length := by rw [HN.out]; exact hi
  have hTd : Turn (only p) w w1.drew := HT.out.drew
  have hlt := HA.out
  have hdb : ¬ only p db := Blk.ne_ HD.out.blk H1.out (by decide)
  have hnp : ∀ b, (dv i).has b → ¬ only p b := fun b hb e => HD.out.ne hi hb H1.out (by decide) e.symm
  have hd1 : Blk w1.drew db 88 C := HD.out.blk.turn hTd hdb
  have hnw : MapAt w1.drew kI eS (dv i).nw d.ws.length (lastW d.ws) := HA.out.nw.turn hTd (hnp _ (.inr (.inl rfl)))
  have hws : Waits w1.drew (dv i).wv d.ws := HA.out.ws.turn hTd (fun g hg => hnp g (.inr (.inr hg)))
  have hwf : (Lit.int IntKind.i64 place).wf = true := place_wf HA.out.n0 hp
  refine (add_walk db (i * 4) (dv i).nw d.ws.length (lastW d.ws) (s.steps + 1, place, b) C (dv i).wv d.ws w1.drew hd1 HA.out.c2 HA.out.c3 hnw hwf hws (by omega) (by omega)).mono ?_
  rintro e w2 ⟨rfl, wv', q1, q2, q3, q4, q5⟩
  have hsz := HD.out.size
  rw [HN.out] at hsz
  obtain ⟨s1, s2, s3⟩ := set3 C i wv' (by omega)
  have hA := HA.out
  have hDA : DiskAt w2 (C.setIfInBounds (i * 4 + 3) wv') i { d with ws := d.ws ++ [(s.steps + 1, place, b)] } { (dv i) with wv := wv' } (K + 1) := {
    c0 := (s3 0 (by omega)).trans hA.c0
    c1 := (s3 1 (by omega)).trans hA.c1
    c2 := (s3 2 (by omega)).trans hA.c2
    c3 := s2
    ne := hA.ne
    fl := ⟨n1, by simp; omega, (hn1b.turn hTd (hnp _ (.inl rfl))).turn q5 (by
      rintro (e | e | e)
      · exact HD.out.ne hi (.inl rfl) HD.out.blk (by decide) e.symm
      · exact hA.ne e
      · exact HA.out.ws.ne_map hn1b e)⟩
    nw := by
      rw [List.length_append, lastW_snoc]
      exact q2
    ws := q3
    wf := fun x hx => by
      rcases List.mem_append.1 hx with hx | hx
      · exact hA.wf x hx
      · rw [List.mem_singleton.1 hx]
        exact hwf
    n0 := hA.n0 }
  have hTw : Turn (fun k => k = db ∨ (dv i).has k) w1.drew w2 := q5.mono fun k _ e => by
    rcases e with e | e | e
    · exact .inl e
    · exact .inr (.inr (.inl e))
    · exact .inr (.inr (.inr e))
  have hD1 : DisksAt w1.drew db C s.ds dv K := HD.out.keep (hTd.block _ HD.out.blk.lt hdb) (fun j hj b hb => hTd.block _ (HD.out.lt hj hb) fun e => HD.out.ne hj hb H1.out (by decide) e.symm) (Nat.le_refl _)
  have hv : ∀ b, ({ (dv i) with wv := wv' } : DV).has b → (dv i).has b ∨ w1.drew.heap.size ≤ b := by
    rintro k (e | e | e)
    · exact .inl (.inl e)
    · exact .inl (.inr (.inl e))
    · rcases q4 with e4 | ⟨g, e4, hg⟩
      · exact .inl (.inr (.inr (e4 ▸ e)))
      · rw [e4] at e
        injection e with e
        exact .inr (e ▸ hg)
  have hD2 := hD1.upd hi q1 (by simp) s1 hDA (by omega) hTw hv
  have hb2 : Blk w2 p 82 (plantCells db n cp s.on (burnt s.fuse) (s.steps + 1)) := hb1.drew.turn hTw (by
    rintro (e | e)
    · exact hdb e.symm
    · exact hnp p e rfl)
  have hsz1 := hTd.size
  have hG : Goes2 w p F w2 (s.put i d place b) (K + 1) := by
    refine ⟨PlF p db n (setV dv i { (dv i) with wv := wv' }), ⟨db, cp, _, _, ?_, hD2, ?_, ?_, ?_, ?_, ?_, ?_, ?_⟩, ?_, ?_⟩
    · simpa [AP.put, HN.out] using hb2
    · simp [AP.put, HN.out]
    · simpa [AP.put, HN.out] using g1
    · simpa [AP.put, HN.out] using g2
    · simp only [AP.put, burnt]; split <;> omega
    · simp only [AP.put, burnt]; split <;> omega
    · simp only [AP.put]; omega
    · simp only [AP.put]; omega
    · refine (hTd.mono fun k _ e => ?_).trans hTw fun k _ e => ?_
      · rw [Hn.out]
        exact .inl e
      · rw [Hn.out]
        rcases e with e | e
        · exact .inr (.inl e)
        · exact .inr (.inr ⟨i, by rw [← HN.out]; exact hi, e⟩)
    · intro k hk
      rw [Hn.out]
      rcases plf_upd (by rw [← HN.out]; exact hi) hv k hk with e | e
      · exact .inl e
      · exact .inr (by omega)
  have HG := Lib.hid hG
  clear hG hD2 hD1 hb2 hDA q1 q2 q3 q4 q5 hTw hv s1 s2 s3 hA
  go_wp2
  go_ret
  exact ⟨rfl, HG.out⟩
end
end Go.Proofs.YtelipeoilcepbaaDoor
