/-
  plant's disks: what a boot makes of the first write that waits
-/
import Derived.Test.YtgdlidjjogoiaaaPlD
import Derived.Laws.CopyOwn
namespace Go.Proofs.Ytgdlidjjogoiaaa
open Go.RowKit Go.Maps
set_option linter.unusedVariables false
/-- what a boot makes of a sector (the two lowest bits of a number) -/
def bootSec (j : Int) (old b : Sec) : Sec :=
  if j = 1 then b else if j = 2 then ⟨b.1.take 32 ++ old.1.drop 32, by simp [b.2, old.2]⟩ else if j = 3 then ⟨old.1.take 32 ++ b.1.drop 32, by simp [b.2, old.2]⟩ else old
def bootFl (j : Int) (place : Int) (b : Sec) (ff : Int → Option Sec) : Int → Option Sec :=
  if j = 0 then ff else upd ff place (bootSec j ((ff place).getD zeroSec) b)
theorem info_byte : (Try.prog.info? 5).map (·.size) = some 1 := by kernel_rfl
theorem range_take {w : World} {g o : Nat} {bs : List UInt8} (h : w.rangeAt g o (bcs bs)) (n : Nat) : w.rangeAt g o (bcs (bs.take n)) := fun j v hv => by
  refine h j v ?_
  unfold bcs at hv ⊢
  rw [List.map_take, List.getElem?_take] at hv
  split at hv
  · exact hv
  · cases hv
theorem range_drop {w : World} {g o : Nat} {bs : List UInt8} (h : w.rangeAt g o (bcs bs)) (n : Nat) : w.rangeAt g (o + n) (bcs (bs.drop n)) := fun j v hv => by
  have := h (n + j) v (by
    unfold bcs at hv ⊢
    rw [List.map_drop, List.getElem?_drop] at hv
    exact hv)
  rwa [← Nat.add_assoc] at this
/-- a piece of bytes goes into a block of bytes -/
theorem wpList_copy_bytes {ops : Array Oper} {rest : List Oper} {o : Oper} {a : Act} {w : World} {Q : Exit → Act → World → Prop} (hgd : o.guard = none) (d s : Operand)
    (ho : o.op = .call { callee := .builtin .copy, args := #[d, s], argTypes := #[36, 36] }) {g off g2 o2 n dc sc : Nat} {t : TypeId} (old bs : List UInt8) (hb : Blk w g t (bcs old).toArray) (hsrc : w.rangeAt g2 o2 (bcs bs)) (hn : bs.length = n)
    (hd : a.eval d = .slice (some ⟨g, off, none⟩) n dc) (hs : a.eval s = .slice (some ⟨g2, o2, none⟩) n sc) (hfit : off + n ≤ old.length)
    (h : ∀ w', Blk w' g t (bcs (old.take off ++ bs ++ old.drop (off + n))).toArray → Turn (only g) w w' → wpList Try.prog ops Q rest (a.put o.dst (goInt n)) w') : wpList Try.prog ops Q (o :: rest) a w := by
  subst hn
  refine wpList_copy_own hgd d s _ _ ho 5 Try.underlying36 info_byte g off bs.length dc ⟨g2, o2, none⟩ bs.length sc hd hs (bcs old).toArray t hb (bcs bs) (by rw [bcs_length]; exact (Nat.min_self _).symm) (fun j v hj => by
    rw [add_nat]
    exact hsrc j v hj) (by rw [bcs_length]; simpa [bcs_length] using hfit) (bcs_one bs) ?_
  rw [bcs_length]
  refine h _ ?_ ⟨rfl, rfl, rfl, by simp, fun k hk hn => setRow_other w g k _ hn⟩
  have e : ((bcs old).toArray.toList.take off ++ (bcs bs ++ (bcs old).toArray.toList.drop (off + bs.length))).toArray = (bcs (old.take off ++ bs ++ old.drop (off + bs.length))).toArray := by
    simp [bcs, List.map_append, List.map_take, List.map_drop]
  rw [e]
  exact setRow_heap w g _ _ t _ hb
/-- where a list of writes begins behind its first one -/
def cutOff (c off : Nat) : Nat := if c = 1 then off else off + 66
theorem exec_alloc {P : Program} {a : Act} {o : Oper} {t : TypeId} {cs : Array Value} {W : World} (ho : o.op = .alloc t) (hz : (zeroValue t).run P W = .ok (.agg cs) W) :
    (execOp a.eval o).run P W = .ok (.value (.pointer (some ⟨W.heap.size, 0, none⟩))) (W.alloc (.cells cs t)) := by
  unfold execOp
  simp only [ho]
  simp [hz, Instr.alloc, Result.andThen, newVar, newRow, Value.cells]
theorem zero_write (w : World) : (zeroValue 69).run Try.prog w = .ok (.agg (wtCells (0, 0, zeroSec)).toArray) w := by kernel_rfl
theorem slice_one (g off n c : Nat) (h0 : 0 < n) (hc : n ≤ c) (W : World) : (Instr.sliceAt 60 (.slice (some ⟨g, off, none⟩) n c) (some (.int .i64 1)) none none).run Try.prog W = .ok (.slice (some ⟨g, cutOff c off, none⟩) (n - 1) (c - 1)) W := by
  have hu := Try.underlying60
  have hi : ∃ i, Try.prog.info? 69 = some i ∧ i.size = 66 := by
    have h := size_write
    cases hq : Try.prog.info? 69 with
    | none => rw [hq] at h; cases h
    | some i => exact ⟨i, rfl, by rw [hq] at h; exact Option.some.inj h⟩
  obtain ⟨i, hi1, hi2⟩ := hi
  have e1 : ∀ s : Addr, (⟨g, off, none⟩ : Addr).add 66 = ⟨g, off + 66, none⟩ := fun _ => add_nat g off 66
  have b1 : (0 : Int) ≤ 1 ∧ (1 : Int) ≤ (n : Int) := ⟨by omega, by omega⟩
  simp only [Instr.sliceAt, Instr.slice, Instr.sliceBounds, Instr.sliceBound, run_underlying hu, Sem.run_bind, Sem.run_pure, Result.andThen_ok, asIntOf, sizeOf, typeInfo]
  simp [b1, hi1, hi2]
  unfold cutOff
  by_cases hc1 : c = 1
  · simp [hc1]
  · simp [hc1]
    exact e1 ⟨0, 0, none⟩
set_option maxHeartbeats 1000000 in
theorem boot_walk (db o fl n1 g off n c : Nat) (ff : Int → Option Sec) (x : Wt) (k j : Int) (C : Array Value) (w : World)
    (hd : Blk w db 62 C) (h1 : C[o + 1]? = some (.map (some fl))) (h3 : C[o + 3]? = some (.slice (some ⟨g, off, none⟩) n c)) (hs : o + 3 < C.size) (hm1 : MapAt w kI eS fl n1 ff) (hr : w.rangeAt g off (wtCells x)) (hx : (Lit.int .i64 x.2.1).wf = true)
    (h0 : 0 < n) (hc : n ≤ c) (hcm : c ≤ 9223372036854775807) (hroom : n1 < 2199023255552) (hj : bits .and .i64 k 3 = j) (hj4 : j = 0 ∨ j = 1 ∨ j = 2 ∨ j = 3) :
    Calls Try.prog 38 #[.pointer (some ⟨db, o, none⟩), .int .i64 k] w fun e w' => e = .returned (.tuple #[]) ∧
      Blk w' db 62 (C.setIfInBounds (o + 3) (.slice (some ⟨g, cutOff c off, none⟩) (n - 1) (c - 1))) ∧ MapAt w' kI eS fl (n1 + 1) (bootFl j x.2.1 x.2.2 ff) ∧
        Turn (fun k => k = db ∨ k = fl) w w' := by
  have c1 : w.cell? ⟨db, o + 1, none⟩ = some (.map (some fl)) := (hd.cell _).trans h1
  have c3 : w.cell? ⟨db, o + 3, none⟩ = some (.slice (some ⟨g, off, none⟩) n c) := (hd.cell _).trans h3
  have f3 := hd.frozen (o + 3)
  have ldb := hd.lt
  have H1 := Lib.hid hm1
  have Hd := Lib.hid hd
  have z1 : (0 : Int) < (n : Int) := by omega
  have z2 : (1 : Int) ≤ (n : Int) := by omega
  have z3 : (1 : Int) ≤ (c : Int) := by omega
  have z4 : (n : Int) ≤ (c : Int) := by omega
  have Hj := Lib.hid hj
  clear hm1 hd h1 h3 hj
  go_enter Try.func38, Try.ntmps38
  have hz := zero_write
  go_upto_region 1 with (first
    | (refine wpList_run rfl (exec_load (ty := 69) (x := .tmp 10) rfl rfl (load_write hr _ rfl)) ?_)
    | (refine wpList_store_row rfl 69 (.tmp 4) (.tmp 11) rfl (wtCells x).toArray (Blk.new w _ _) rfl rfl (by simp [wtCells_length]) (by rw [size_write]; simp [wtCells_length]) (fun v hv => wtCells_one x v (by simpa using hv)) ?_; intro w1 hb1 ht1))
  have hd1 : Blk w1 db 62 C := (Hd.out.alloc _).turn ht1 (Nat.ne_of_lt Hd.out.lt)
  have hm1 : MapAt w1 kI eS fl n1 ff := (H1.out.alloc _).turn ht1 (Nat.ne_of_lt H1.out.lt)
  have t1 : Turn (fun k => k = db ∨ k = fl) w w1 := ((Turn.refl _ _).alloc _).trans ht1 (fun k hk e => (Nat.ne_of_lt hk e).elim)
  have Hne := H1.out.ne Hd.out
  have hGdb : db ≠ w.heap.size := Nat.ne_of_lt Hd.out.lt
  have c3' : w1.cell? ⟨db, o + 3, none⟩ = some (.slice (some ⟨g, off, none⟩) n c) := by rw [hd1.cell, ← Hd.out.cell]; exact c3
  have f3' := hd1.frozen (o + 3)
  have c1' : w1.cell? ⟨db, o + 1, none⟩ = some (.map (some fl)) := by rw [hd1.cell, ← Hd.out.cell]; exact c1
  have T1 := Lib.hid t1
  have HM := Lib.hid hm1
  clear ht1 hm1 t1 c3 c1 f3 hr
  go_upto_region 2 with (first
    | (refine wpList_run (o := ⟨some 17, _, _, _, _, _⟩) rfl (exec_slice (t := 60) (x := .tmp 16) (lo := some (.const (.int .i64 1))) (hi := none) (mx := none) (l := some (.int .i64 1)) (h := none) (m := none) (u := .slice (some ⟨g, off, none⟩) n c) rfl rfl rfl rfl rfl (slice_one g off n c h0 hc _)) ?_))
  have hd2 := hd1.set_ (o + 3) (.slice (some ⟨g, cutOff c off, none⟩) (n - 1) (c - 1))
  have hb2 : Blk _ w.heap.size 69 (wtCells x).toArray := hb1.far (p := ⟨db, o + 3, none⟩) (Ne.symm hGdb) (.slice (some ⟨g, cutOff c off, none⟩) (n - 1) (c - 1))
  have hm2 := HM.out.setCell (p := ⟨db, o + 3, none⟩) (Ne.symm Hne) (.slice (some ⟨g, cutOff c off, none⟩) (n - 1) (c - 1))
  have t2 := T1.out.setCell (p := ⟨db, o + 3, none⟩) (fun _ => .inl rfl) (.slice (some ⟨g, cutOff c off, none⟩) (n - 1) (c - 1))
  have q1 : (C.setIfInBounds (o + 3) (.slice (some ⟨g, cutOff c off, none⟩) (n - 1) (c - 1)))[o + 1]? = some (.map (some fl)) := by
    rw [Array.getElem?_setIfInBounds, if_neg (by omega), ← hd1.cell]
    exact c1'
  generalize w1.setCell ⟨db, o + 3, none⟩ (.slice (some ⟨g, cutOff c off, none⟩) (n - 1) (c - 1)) = w2 at *
  generalize hC2 : C.setIfInBounds (o + 3) (.slice (some ⟨g, cutOff c off, none⟩) (n - 1) (c - 1)) = C2 at *
  have HC2 := Lib.hid hC2
  clear hC2
  generalize w.heap.size = G at *
  clear hd1 hb1 HM T1 c3' c1' f3'
  have hS2 : Blk w2.drew db 62 C2 ∧ Blk w2.drew G 69 (wtCells x).toArray ∧ MapAt w2.drew kI eS fl n1 ff := ⟨hd2, hb2, hm2⟩
  have hz72 := zero_sector
  go_wp2_with fail
  refine wp_region_till (fun W => Blk W db 62 C2 ∧ Blk W G 69 (wtCells x).toArray ∧ MapAt W kI eS fl n1 ff) 8 (by kernel_rfl) ?_
  refine till_take (i := 0) (v := .pointer (some ⟨db, o, none⟩)) rfl (by kernel_rfl) (by kernel_rfl) (fun _ _ _ h => h) (.inl ⟨rfl, fun W hW => exec_move rfl rfl⟩) hS2 ?_
  simp only [Act.put, List.setIfInBounds_toArray, List.set_cons_zero, List.set_cons_succ]
  refine till_take (i := 1) (v := .pointer (some ⟨db, o, none⟩)) rfl (by kernel_rfl) (by kernel_rfl) (fun _ _ _ h => h) (.inl ⟨rfl, fun W hW => exec_nil rfl rfl⟩) hS2 ?_
  simp only [Act.put, List.setIfInBounds_toArray, List.set_cons_zero, List.set_cons_succ]
  refine till_take (i := 2) (v := .pointer (some ⟨db, o + 1, none⟩)) rfl (by kernel_rfl) (by kernel_rfl) (fun _ _ _ h => h) (.inl ⟨rfl, fun W hW => exec_field rfl rfl (by kernel_rfl)⟩) hS2 ?_
  simp only [Act.put, List.setIfInBounds_toArray, List.set_cons_zero, List.set_cons_succ]
  refine till_take (i := 3) (v := .map (some fl)) rfl (by kernel_rfl) (by kernel_rfl) (fun _ _ _ h => h) (.inl ⟨rfl, fun W hW => exec_load1 rfl rfl (by kernel_rfl) ((hW.1.cell (o + 1)).trans q1)⟩) hS2 ?_
  simp only [Act.put, List.setIfInBounds_toArray, List.set_cons_zero, List.set_cons_succ]
  refine till_take (i := 4) (v := .pointer (some ⟨G, 1, none⟩)) rfl (by kernel_rfl) (by kernel_rfl) (fun _ _ _ h => h) (.inl ⟨rfl, fun W hW => exec_field (off := 0) (d := 1) rfl rfl (by kernel_rfl)⟩) hS2 ?_
  simp only [Act.put, List.setIfInBounds_toArray, List.set_cons_zero, List.set_cons_succ]
  refine till_take (i := 5) (v := .int .i64 x.2.1) rfl (by kernel_rfl) (by kernel_rfl) (fun _ _ _ h => h) (.inl ⟨rfl, fun W hW => exec_load1 rfl rfl (by kernel_rfl) ((hW.2.1.cell 1).trans (by simp [wtCells]))⟩) hS2 ?_
  simp only [Act.put, List.setIfInBounds_toArray, List.set_cons_zero, List.set_cons_succ]
  refine till_take (i := 6) (v := rowV ((ff x.2.1).getD zeroSec).1) rfl (by kernel_rfl) (by kernel_rfl) (fun _ _ _ h => h) (.inl ⟨rfl, fun W hW => exec_lookup (M := .map (some fl)) (k := .int .i64 x.2.1) rfl rfl rfl (hW.2.2.lookup map_sector (zero_sector _) hx)⟩) hS2 ?_
  simp only [Act.put, List.setIfInBounds_toArray, List.set_cons_zero, List.set_cons_succ]
  refine till_only (i := 7) (by kernel_rfl) rfl rfl ?_
  refine wp_run (exec_alloc rfl (zero_sector _)) ?_
  have hS3 : Blk _ db 62 C2 ∧ Blk _ G 69 (wtCells x).toArray ∧ MapAt _ kI eS fl n1 ff := ⟨hS2.1.alloc (.cells (bcs zeroSec.1).toArray 66), hS2.2.1.alloc (.cells (bcs zeroSec.1).toArray 66), hS2.2.2.alloc (.cells (bcs zeroSec.1).toArray 66)⟩
  have hB3 := Blk.new w2.drew 66 (bcs zeroSec.1).toArray
  have t3 := t2.drew.alloc (.cells (bcs zeroSec.1).toArray 66)
  refine ⟨fun _ => hS3, ?_⟩
  refine till_tail 8 rfl (by kernel_rfl) ?_
  simp only [Act.put, List.setIfInBounds_toArray, List.set_cons_zero, List.set_cons_succ]
  obtain ⟨old, hold⟩ : ∃ s : Sec, s = (ff x.2.1).getD zeroSec := ⟨_, rfl⟩
  rw [← hold]
  have Ho := Lib.hid hold
  clear hold
  have hz3 := hB3
  generalize hw3 : w2.drew.alloc (.cells (bcs zeroSec.1).toArray 66) = w3 at *
  generalize hD : w2.drew.heap.size = D at *
  have hDG : D ≠ G := by
    have := hb2.lt
    have e : w2.drew.heap.size = w2.heap.size := rfl
    omega
  have hDw : ∀ k, k < w.heap.size → only D k → False := by
    intro k hk e
    have e' : k = D := e
    have e2 : w2.drew.heap.size = w2.heap.size := rfl
    have := t2.size
    omega
  clear hw3 hD hd2 hb2 hm2 t2 hS2
  refine wpList_store_row rfl 66 (.tmp 5) (.tmp 26) rfl (bcs old.1).toArray hB3 rfl rfl (by rw [← sec_size, ← sec_size]) (size_sec old) (sec_one old) ?_
  intro w4 hB4 ht4
  have hd4 : Blk w4 db 62 C2 := hS3.1.turn ht4 (by
    have := Blk.ne_ hS3.1 hB3 (by decide)
    exact this)
  have hb4 : Blk w4 G 69 (wtCells x).toArray := hS3.2.1.turn ht4 (Ne.symm hDG)
  have hm4 : MapAt w4 kI eS fl n1 ff := hS3.2.2.turn ht4 (fun e => hS3.2.2.ne hB3 e.symm)
  have HDdb : db ≠ D := Blk.ne_ hS3.1 hB3 (by decide)
  have hfl : fl ≠ D := fun e => hS3.2.2.ne hB3 e.symm
  have t4 : Turn (fun k => k = db ∨ k = fl) w w4 := t3.trans ht4 (fun k hk e => (hDw k hk e).elim)
  have Hfl := Lib.hid hfl
  have T4 := Lib.hid t4
  have HDw := Lib.hid hDw
  have Q1 := Lib.hid q1
  clear hS3 hB3 ht4 t3 hz3 hz hz72 hfl t4 hDw q1
  refine wpList_nil ?_
  refine NoPanic.normal ?_
  have hm4' := hm4
  have Hm4 := Lib.hid hm4'
  clear hm4'
  rcases hj4 with rfl | rfl | rfl | rfl
  · have hjj := Hj.out
    clear Hj
    go_wp2
    refine bodyPost_ret (results_none rfl _ _ _) rfl ?_
    exact ⟨rfl, HC2.out ▸ hd4, hm4.mono (by omega), T4.out⟩
  · have hjj := Hj.out
    clear Hj
    go_wp2_with (first
      | (refine wpList_run (o := ⟨some 34, _, _, _, _, _⟩) rfl (exec_load (ty := 66) (x := .tmp 33) rfl rfl (load_sector (wt_sec x hb4) _ rfl)) ?_)
      | (refine wpList_store_row rfl 66 (.tmp 5) (.tmp 34) rfl (bcs x.2.2.1).toArray hB4 rfl rfl (by rw [← sec_size, ← sec_size]) (size_sec _) (sec_one _) ?_; intro w5 hB5 ht5))
    have hd5 : Blk w5 db 62 C2 := hd4.turn (F := only D) ht5 HDdb
    have hb5 : Blk w5 G 69 (wtCells x).toArray := hb4.turn (F := only D) ht5 (Ne.symm hDG)
    have hm5 : MapAt w5 kI eS fl n1 ff := hm4.turn ht5 (Hfl.out)
    have Ht5 := Lib.hid (T4.out.trans ht5 (fun k hk e => (HDw.out k hk e).elim))
    have c5 : w5.cell? ⟨db, o + 1, none⟩ = some (.map (some fl)) := (hd5.cell _).trans Q1.out
    have g5 : w5.cell? ⟨G, 1, none⟩ = some (.int .i64 x.2.1) := (hb5.cell 1).trans (by simp [wtCells])
    clear ht5
    refine wp_region_still_tail 7 (by kernel_rfl) (by kernel_rfl) ?_
    simp only [List.take_succ_cons, List.take_zero, List.drop_succ_cons, List.drop_zero]
    iterate 6 still_step
    refine wpStill_load rfl _ _ rfl _ _ rfl (load_blk (s := bootSec 1 old x.2.2) hB5 _ rfl) ?_
    refine wpStill_nil ?_
    change wpList _ _ _ _ _ w5.drew
    refine wpList_mapUpdate_at rfl _ _ _ _ rfl hm5.drew map_sector (by unfold maxLen; omega) hx (bootSec 1 old x.2.2) rfl rfl rfl ?_
    intro w6 hm6 hg6
    have hd6 : Blk w6 db 62 C2 := hd5.drew.grown hg6 (fun e => Hne (Option.some.inj e))
    have t6 := Ht5.out.drew.grown hg6 (fun g e _ => .inr (Option.some.inj e).symm)
    go_wp2
    go_end0
    refine ⟨rfl, HC2.out ▸ hd6, ?_, t6⟩
    rw [show bootFl 1 x.2.1 x.2.2 ff = upd ff x.2.1 (bootSec 1 ((ff x.2.1).getD zeroSec) x.2.2) from by unfold bootFl; rw [if_neg (by decide)], ← Ho.out]
    exact hm6
  · have hjj := Hj.out
    clear Hj
    go_wp2_with fail
    go_still_tail 3, (by kernel_rfl)
    change wpList _ _ _ _ _ w4.drew
    refine wpList_copy_bytes rfl _ _ rfl (n := 32) (off := 0) old.1 (x.2.2.1.take 32) hB4.drew (g2 := G) (o2 := 2) (range_take (wt_sec x hb4) 32) (by simp [x.2.2.2]) rfl rfl (by rw [old.2]; omega) ?_
    intro w5 hB5 ht5'
    have ht5 : Turn (only D) w4 w5 := ((Turn.refl _ _).drew).trans ht5' (fun _ _ e => e)
    clear ht5'
    go_wp2_with fail
    have hd5 : Blk w5 db 62 C2 := hd4.turn (F := only D) ht5 HDdb
    have hb5 : Blk w5 G 69 (wtCells x).toArray := hb4.turn (F := only D) ht5 (Ne.symm hDG)
    have hm5 : MapAt w5 kI eS fl n1 ff := hm4.turn ht5 (Hfl.out)
    have Ht5 := Lib.hid (T4.out.trans ht5 (fun k hk e => (HDw.out k hk e).elim))
    have c5 : w5.cell? ⟨db, o + 1, none⟩ = some (.map (some fl)) := (hd5.cell _).trans Q1.out
    have g5 : w5.cell? ⟨G, 1, none⟩ = some (.int .i64 x.2.1) := (hb5.cell 1).trans (by simp [wtCells])
    clear ht5
    refine wp_region_still_tail 7 (by kernel_rfl) (by kernel_rfl) ?_
    simp only [List.take_succ_cons, List.take_zero, List.drop_succ_cons, List.drop_zero]
    iterate 6 still_step
    refine wpStill_load rfl _ _ rfl _ _ rfl (load_blk (s := bootSec 2 old x.2.2) hB5 _ rfl) ?_
    refine wpStill_nil ?_
    change wpList _ _ _ _ _ w5.drew
    refine wpList_mapUpdate_at rfl _ _ _ _ rfl hm5.drew map_sector (by unfold maxLen; omega) hx (bootSec 2 old x.2.2) rfl rfl rfl ?_
    intro w6 hm6 hg6
    have hd6 : Blk w6 db 62 C2 := hd5.drew.grown hg6 (fun e => Hne (Option.some.inj e))
    have t6 := Ht5.out.drew.grown hg6 (fun g e _ => .inr (Option.some.inj e).symm)
    go_wp2
    go_end0
    refine ⟨rfl, HC2.out ▸ hd6, ?_, t6⟩
    rw [show bootFl 2 x.2.1 x.2.2 ff = upd ff x.2.1 (bootSec 2 ((ff x.2.1).getD zeroSec) x.2.2) from by unfold bootFl; rw [if_neg (by decide)], ← Ho.out]
    exact hm6
  · have hjj := Hj.out
    clear Hj
    go_wp2_with fail
    go_still_tail 3, (by kernel_rfl)
    change wpList _ _ _ _ _ w4.drew
    refine wpList_copy_bytes rfl _ _ rfl (n := 32) (off := 32) old.1 (x.2.2.1.drop 32) hB4.drew (g2 := G) (o2 := 34) (range_drop (wt_sec x hb4) 32) (by simp [x.2.2.2]) rfl rfl (by rw [old.2]; omega) ?_
    rw [show old.1.take 32 ++ x.2.2.1.drop 32 ++ old.1.drop (32 + 32) = (bootSec 3 old x.2.2).1 from by
      rw [show old.1.drop (32 + 32) = [] from List.drop_eq_nil_of_le (by rw [old.2]; omega), List.append_nil]
      rfl]
    intro w5 hB5 ht5'
    have ht5 : Turn (only D) w4 w5 := ((Turn.refl _ _).drew).trans ht5' (fun _ _ e => e)
    clear ht5'
    go_wp2_with fail
    have hd5 : Blk w5 db 62 C2 := hd4.turn (F := only D) ht5 HDdb
    have hb5 : Blk w5 G 69 (wtCells x).toArray := hb4.turn (F := only D) ht5 (Ne.symm hDG)
    have hm5 : MapAt w5 kI eS fl n1 ff := hm4.turn ht5 (Hfl.out)
    have Ht5 := Lib.hid (T4.out.trans ht5 (fun k hk e => (HDw.out k hk e).elim))
    have c5 : w5.cell? ⟨db, o + 1, none⟩ = some (.map (some fl)) := (hd5.cell _).trans Q1.out
    have g5 : w5.cell? ⟨G, 1, none⟩ = some (.int .i64 x.2.1) := (hb5.cell 1).trans (by simp [wtCells])
    clear ht5
    refine wp_region_still_tail 7 (by kernel_rfl) (by kernel_rfl) ?_
    simp only [List.take_succ_cons, List.take_zero, List.drop_succ_cons, List.drop_zero]
    iterate 6 still_step
    refine wpStill_load rfl _ _ rfl _ _ rfl (load_blk (s := bootSec 3 old x.2.2) hB5 _ rfl) ?_
    refine wpStill_nil ?_
    change wpList _ _ _ _ _ w5.drew
    refine wpList_mapUpdate_at rfl _ _ _ _ rfl hm5.drew map_sector (by unfold maxLen; omega) hx (bootSec 3 old x.2.2) rfl rfl rfl ?_
    intro w6 hm6 hg6
    have hd6 : Blk w6 db 62 C2 := hd5.drew.grown hg6 (fun e => Hne (Option.some.inj e))
    have t6 := Ht5.out.drew.grown hg6 (fun g e _ => .inr (Option.some.inj e).symm)
    go_wp2
    go_end0
    refine ⟨rfl, HC2.out ▸ hd6, ?_, t6⟩
    rw [show bootFl 3 x.2.1 x.2.2 ff = upd ff x.2.1 (bootSec 3 ((ff x.2.1).getD zeroSec) x.2.2) from by unfold bootFl; rw [if_neg (by decide)], ← Ho.out]
    exact hm6
end Go.Proofs.Ytgdlidjjogoiaaa
