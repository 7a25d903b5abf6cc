/-
  Texts in one file: PlY WlO. Conditions: the tables and the errors read as the program's text lays them.
-/
import Derived.Test.YtelipeoilcepbaaDoorWp0
import Derived.Test.YtelipeoilcepbaaDoorWp12
import Derived.Test.YtelipeoilcepbaaDoorWp9
import Derived.Test.YtelipeoilcepbaaDoorWp3
namespace Go.Proofs.YtelipeoilcepbaaDoor
open Go.RowKit Go.Maps
set_option maxRecDepth 20000
set_option linter.unusedVariables false
def sizesOk (zs : List Int) : Prop := 1 ≤ zs.length ∧ zs.length ≤ 4 ∧ ∀ z ∈ zs, 1 ≤ z ∧ z ≤ 65536
def AP.new (zs : List Int) : AP := { ds := zs.map fun z => ⟨z, fun _ => none, []⟩, on := true, fuse := -1, steps := 0 }
def dCells (z : Int) (v : DV) : List Value := [.int .i64 z, .map (some v.fl), .map (some v.nw), .slice none 0 0]
def dRow (zs : List Int) (dk : Nat → DV) (k : Nat) : List Value := (List.range k).flatMap fun i => dCells (zs.getD i 0) (dk i)
theorem dRow_length (zs : List Int) (dk : Nat → DV) : ∀ k, (dRow zs dk k).length = k * 4
  | 0 => rfl
  | k + 1 => by
    have h := dRow_length zs dk k
    unfold dRow at h ⊢
    rw [List.range_succ, List.flatMap_append, List.length_append, h]
    simp [dCells]
    omega
theorem dRow_succ (zs : List Int) (dk : Nat → DV) (k : Nat) : dRow zs dk (k + 1) = dRow zs dk k ++ dCells (zs.getD k 0) (dk k) := by
  unfold dRow
  rw [List.range_succ, List.flatMap_append]
  simp
theorem dRow_at (zs : List Int) (dk : Nat → DV) : ∀ k i m, i < k → m < 4 → (dRow zs dk k)[i * 4 + m]? = (dCells (zs.getD i 0) (dk i))[m]?
  | 0, i, m, hi, _ => by omega
  | k + 1, i, m, hi, hm => by
    rw [dRow_succ]
    by_cases e : i = k
    · subst e
      rw [List.getElem?_append_right (by rw [dRow_length]; omega), dRow_length, show i * 4 + m - i * 4 = m from by omega]
    · rw [List.getElem?_append_left (by rw [dRow_length]; omega)]
      exact dRow_at zs dk k i m (by omega) hm
theorem dRow_congr (zs : List Int) (dk dk' : Nat → DV) (k : Nat) (h : ∀ i, i < k → dk' i = dk i) : dRow zs dk' k = dRow zs dk k := by
  unfold dRow
  rw [List.flatMap_def, List.flatMap_def]
  congr 1
  apply List.map_congr_left
  intro i hi
  rw [h i (List.mem_range.1 hi)]
structure NewAt (B : Nat) (w : World) (v : Value) (zs : List Int) (dk : Nat → DV) (k : Nat) : Prop where
  row : w.ownsRow B 88 4 v k (dRow zs dk k)
  fl : ∀ i, i < k → MapAt w kI eS (dk i).fl 0 (fun _ => none)
  nw : ∀ i, i < k → MapAt w kI eS (dk i).nw 0 (fun _ => none)
  lo : ∀ i, i < k → B ≤ (dk i).fl ∧ (dk i).fl < (dk i).nw
  up : ∀ i j, i < j → j < k → (dk i).nw < (dk j).fl
  wv : ∀ i, i < k → (dk i).wv = .slice none 0 0
  ok : ∀ i, i < k → 1 ≤ zs.getD i 0 ∧ zs.getD i 0 ≤ 65536
theorem info_disk : (Tryd.prog.info? 88).map (fun i => (i.zero, i.size, i.bytes)) = some (some (.agg #[.int .i64 0, .map none, .map none, .slice none 0 0]), 4, 48) := by kernel_rfl
def NewPost (w : World) (zs : List Int) (e : Ending) (w' : World) : Prop :=
  (sizesOk zs ∧ ∃ p F', e = .returned (.tuple #[.pointer (some ⟨p, 0, none⟩), .int .i64 0]) ∧ PlantAt w' p F' (AP.new zs) 0 ∧ Turn nowhere w w' ∧ ∀ k, F' k → w.heap.size ≤ k) ∨
  (¬ sizesOk zs ∧ e = .returned (.tuple #[.pointer none, .int .i64 30]) ∧ Turn nowhere w w')
theorem new_count {w : World} (a : Option Addr) (len cap : Nat) (zs : List Int) (hz : zs.length = len) (hl : ¬ (1 ≤ len ∧ len ≤ 4)) (hm : len ≤ 9223372036854775807) :
    Calls Tryd.prog 23 #[.slice a len cap] w (NewPost w zs) := by
  have hn : ¬ sizesOk zs := fun h => hl ⟨by have := h.1; omega, by have := h.2.1; omega⟩
  have Hn := Lib.hid hn
  clear hn hz
  by_cases h0 : len < 1
  · have h1 : (len : Int) < 1 := by omega
    clear hl
    go_enter Tryd.func23, Tryd.ntmps23
    go_wp2
    go_ret2
    exact .inr ⟨Hn.out, rfl, Turn.refl _ _⟩
  · have h1 : (4 : Int) < len := by omega
    have h2 : (1 : Int) ≤ len := by omega
    clear hl h0
    go_enter Tryd.func23, Tryd.ntmps23
    go_wp2
    go_ret2
    exact .inr ⟨Hn.out, rfl, Turn.refl _ _⟩
theorem build_disk (z : Int) (a b : Nat) (W : World) : (Instr.build 88 #[(0, .int .i64 z), (1, .map (some a)), (2, .map (some b))]).run Tryd.prog W = .ok (.agg #[.int .i64 z, .map (some a), .map (some b), .slice none 0 0]) W := by
  refine run_build W _ _ _ ?_
  obtain ⟨i0, hi0, hz0, hz1, hz2⟩ := info_parts info_disk
  have hp : (match Tryd.prog.underlying 88 with | some (.struct fs) => fs.toList.mapM (fun f => (Tryd.prog.info? f.type).map fun i => (f.offset, i.size)) | _ => none) = some [(0, 1), (1, 1), (2, 1), (3, 1)] := by kernel_rfl
  have hu := Tryd.underlying88
  rw [hu] at hp
  unfold Program.built
  simp only [hi0, hu, hz0]
  simp only at hp
  rw [hp]
  rfl
theorem size2 (wr : World) : ((wr.alloc (.map #[] 0)).alloc (.map #[] 0)).heap.size = wr.heap.size + 1 + 1 := by simp
theorem new_cells (wr : World) (z : Int) : ∀ j u, (dCells z ⟨wr.heap.size, wr.heap.size + 1, .slice none 0 0⟩)[j]? = some u →
    (((wr.alloc (.map #[] 0)).alloc (.map #[] 0)).alloc (.cells #[.int .i64 z, .map (some wr.heap.size), .map (some (wr.heap.size + 1)), .slice none 0 0] 88)).cell? ((⟨wr.heap.size + 1 + 1, 0, none⟩ : Addr).add j) = some u := by
  intro j u hj
  have h := Blk.new ((wr.alloc (.map #[] 0)).alloc (.map #[] 0)) 88 #[.int .i64 z, .map (some wr.heap.size), .map (some (wr.heap.size + 1)), .slice none 0 0]
  have e : ((wr.alloc (.map #[] 0)).alloc (.map #[] 0)).heap.size = wr.heap.size + 1 + 1 := by simp
  rw [e] at h
  rw [add_nat, Nat.zero_add, h.cell]
  simpa [dCells] using hj
theorem row_form {w : World} {B : Nat} {e : TypeId} {sz n : Nat} {v : Value} {xs : List Value} (h : w.ownsRow B e sz v n xs) : ∃ A n' c, v = .slice A n' c := by
  rcases h.2 with ⟨rfl, _⟩ | ⟨g, cap, cur, rfl, _⟩
  · exact ⟨_, _, _, rfl⟩
  · exact ⟨_, _, _, rfl⟩
theorem row_ne {w : World} {B : Nat} {e : TypeId} {sz n g : Nat} {v : Value} {xs : List Value} {t : TypeId} {cs : Array Value} (h : w.ownsRow B e sz v n xs) (hg : Blk w g t cs) (ht : t ≠ e) : some g ≠ v.ownBlock := by
  intro hb
  rcases h.2 with ⟨rfl, _⟩ | ⟨g', cap, cur, rfl, _, h4, _⟩
  · cases hb
  · injection hb with hb
    have hb' : g = g' := hb
    subst hb'
    exact Blk.ne_ hg (g' := g) (cs' := cur) h4 ht rfl
theorem newP {wr w5 : World} {p : Nat} {A : Option Addr} {n' c' : Nat} {cs : Array Value} {z : Int} {xs : List Value} {k : Nat}
    (hg : (((wr.alloc (.map #[] 0)).alloc (.map #[] 0)).alloc (.cells #[.int .i64 z, .map (some wr.heap.size), .map (some (wr.heap.size + 1)), .slice none 0 0] 88)).grownBy w5 (Value.slice A n' c').ownBlock)
    (hP : Blk wr p 82 cs) (hr : wr.ownsRow p 88 4 (.slice A n' c') k xs) : Blk w5 p 82 cs ∧ Turn (fun b => some b = (Value.slice A n' c').ownBlock) wr w5 :=
  ⟨(((hP.alloc _).alloc _).alloc _).grown hg (row_ne hr hP (by decide)), ((((Turn.refl _ _).alloc _).alloc _).alloc _).grown hg fun _ e _ => e.symm⟩
theorem row_keep {w w' : World} {B : Nat} {e : TypeId} {sz n : Nat} {v : Value} {xs : List Value} (h : w.ownsRow B e sz v n xs) (hk : ∀ g, v.ownBlock = some g → w'.heap[g]? = w.heap[g]?) : w'.ownsRow B e sz v n xs := by
  refine ⟨h.1, ?_⟩
  rcases h.2 with h2 | ⟨g, cap, cur, rfl, h3, h4, h5⟩
  · exact .inl h2
  · exact .inr ⟨g, cap, cur, rfl, h3, (hk g rfl).trans h4, h5⟩
theorem new_step {wr w5 : World} {p : Nat} {v v5 : Value} {z : Int} {zs : List Int} {dk : Nat → DV} {k : Nat} {cs : Array Value} (hN : NewAt p wr v zs dk k) (hP : Blk wr p 82 cs)
    (hg : (((wr.alloc (.map #[] 0)).alloc (.map #[] 0)).alloc (.cells #[.int .i64 z, .map (some wr.heap.size), .map (some (wr.heap.size + 1)), .slice none 0 0] 88)).grownBy w5 v.ownBlock)
    (hr : w5.ownsRow p 88 4 v5 (k + 1) (dRow zs dk k ++ dCells z ⟨wr.heap.size, wr.heap.size + 1, .slice none 0 0⟩)) (hz : zs.getD k 0 = z) (h1 : 1 ≤ z) (h2 : z ≤ 65536) (hP5 : Blk w5 p 82 cs) :
    NewAt p (w5.setCell ⟨p, 0, none⟩ v5) v5 zs (setV dk k ⟨wr.heap.size, wr.heap.size + 1, .slice none 0 0⟩) (k + 1) := by
  have hself : setV dk k ⟨wr.heap.size, wr.heap.size + 1, .slice none 0 0⟩ k = ⟨wr.heap.size, wr.heap.size + 1, .slice none 0 0⟩ := by simp [setV]
  have hold : ∀ i, i < k → setV dk k ⟨wr.heap.size, wr.heap.size + 1, .slice none 0 0⟩ i = dk i := fun i hi => by simp [setV, Nat.ne_of_lt hi]
  have hpl := hP.lt
  have hmap : ∀ {b n : Nat} {f : Int → Option Sec}, MapAt (((wr.alloc (.map #[] 0)).alloc (.map #[] 0)).alloc (.cells #[.int .i64 z, .map (some wr.heap.size), .map (some (wr.heap.size + 1)), .slice none 0 0] 88)) kI eS b n f → MapAt (w5.setCell ⟨p, 0, none⟩ v5) kI eS b n f := fun {b n f} hm => by
    have h5 : MapAt w5 kI eS b n f := hm.grown hg (fun e => by
      rcases hN.row.2 with ⟨rfl, _⟩ | ⟨g', cap, cur, rfl, _, h4, _⟩
      · cases e
      · injection e with e
        have e' : b = g' := e
        have hb4 : Blk wr g' 88 cur := h4
        exact hm.ne (((hb4.alloc _).alloc _).alloc _) e'.symm)
    exact h5.setCell (p := ⟨p, 0, none⟩) (fun e => h5.ne hP5 e.symm) v5
  have hnew1 : MapAt (w5.setCell ⟨p, 0, none⟩ v5) kI eS wr.heap.size 0 (fun _ => none) := hmap (((MapAt.made kI eS wr).alloc _).alloc _)
  have hnew2 : MapAt (w5.setCell ⟨p, 0, none⟩ v5) kI eS (wr.heap.size + 1) 0 (fun _ => none) := hmap (by
    have := (MapAt.made kI eS (wr.alloc (.map #[] 0))).alloc (.cells #[.int .i64 z, .map (some wr.heap.size), .map (some (wr.heap.size + 1)), .slice none 0 0] 88)
    rwa [show (wr.alloc (.map #[] 0)).heap.size = wr.heap.size + 1 from by simp] at this)
  refine { row := ?_, fl := fun i hi => ?_, nw := fun i hi => ?_, lo := fun i hi => ?_, up := fun i j hij hj => ?_, wv := fun i hi => ?_, ok := fun i hi => ?_ }
  · rw [dRow_succ, dRow_congr zs dk _ k hold, hself, hz]
    exact row_keep hr fun g hgg => heap_setCell_other _ _ _ _ (fun e => row_ne hr hP5 (by decide) (by rw [hgg, show g = p from e]))
  · by_cases e : i = k
    · subst e
      rw [hself]
      exact hnew1
    · rw [hold i (by omega)]
      exact hmap ((((hN.fl i (by omega)).alloc _).alloc _).alloc _)
  · by_cases e : i = k
    · subst e
      rw [hself]
      exact hnew2
    · rw [hold i (by omega)]
      exact hmap ((((hN.nw i (by omega)).alloc _).alloc _).alloc _)
  · by_cases e : i = k
    · subst e
      rw [hself]
      exact ⟨by show p ≤ wr.heap.size; omega, by show wr.heap.size < wr.heap.size + 1; omega⟩
    · rw [hold i (by omega)]
      exact hN.lo i (by omega)
  · by_cases e : j = k
    · subst e
      rw [hold i hij, hself]
      exact (hN.nw i hij).lt
    · rw [hold i (by omega), hold j (by omega)]
      exact hN.up i j hij (by omega)
  · by_cases e : i = k
    · subst e
      rw [hself]
    · rw [hold i (by omega)]
      exact hN.wv i (by omega)
  · by_cases e : i = k
    · subst e
      rw [hz]
      exact ⟨h1, h2⟩
    · exact hN.ok i (by omega)
theorem new_done {w wr : World} {p : Nat} {v : Value} {zs : List Int} {dk : Nat → DV} {k : Nat} (hN : NewAt p wr v zs dk k) (hP : Blk wr p 82 #[v, .bool true, .int .i64 (-1), .int .i64 0]) (hl : zs.length = k) (h1 : 1 ≤ k) (h4 : k ≤ 4) (hp : w.heap.size = p) :
    ∃ F', PlantAt wr p F' (AP.new zs) 0 ∧ ∀ b, F' b → w.heap.size ≤ b := by
  rcases hN.row.2 with ⟨_, h0⟩ | ⟨db, cap, cur, rfl, hB, hb, hn, hm, hs, ht⟩
  · omega
  · have hlen : (AP.new zs).ds.length = k := by simp [AP.new, hl]
    have hcur : ∀ i m, i < k → m < 4 → cur[i * 4 + m]? = (dCells (zs.getD i 0) (dk i))[m]? := fun i m hi hm' => by
      rw [← dRow_at zs dk k i m hi hm', ← ht, List.getElem?_take, if_pos (by omega), Array.getElem?_toList]
    have hb' : Blk wr db 88 cur := hb
    have hlt : ∀ i, i < k → (dk i).fl < (dk i).nw ∧ p ≤ (dk i).fl := fun i hi => ⟨(hN.lo i hi).2, (hN.lo i hi).1⟩
    refine ⟨PlF p db k dk, ⟨db, cap, cur, dk, ?_, ?_, ?_, ?_, ?_, ?_, ?_, ?_, ?_⟩, ?_⟩
    · rw [hlen]
      exact hP
    · refine ⟨hb', by rw [hlen, hs]; exact Nat.mul_le_mul_right _ hn, fun i d hi => ?_, fun i j hi hj hij b hb1 hb2 => ?_⟩
      · have hil := (List.getElem?_eq_some_iff.1 hi).1
        rw [hlen] at hil
        have hd : d = ⟨zs.getD i 0, fun _ => none, []⟩ := by
          simp only [AP.new, List.getElem?_map] at hi
          rw [List.getElem?_eq_getElem (by omega)] at hi
          simp only [Option.map_some, Option.some.injEq] at hi
          rw [← hi, List.getD_eq_getElem?_getD, List.getElem?_eq_getElem (by omega)]
          rfl
        subst hd
        exact { c0 := hcur i 0 hil (by omega), c1 := hcur i 1 hil (by omega), c2 := hcur i 2 hil (by omega), c3 := by rw [hN.wv i hil]; exact hcur i 3 hil (by omega), ne := Nat.ne_of_lt (hlt i hil).1, fl := ⟨0, Nat.le_refl _, hN.fl i hil⟩, nw := hN.nw i hil, ws := by rw [hN.wv i hil]; exact World.ownsRow_nil wr 0 _ _, wf := (fun x hx => by cases hx), n0 := hN.ok i hil }
      · rw [hlen] at hi hj
        have w1 := hN.wv i hi
        have w2 := hN.wv j hj
        have l1 := (hlt i hi).1
        have l2 := (hlt j hj).1
        have ho : (dk i).nw < (dk j).fl ∨ (dk j).nw < (dk i).fl := by
          rcases Nat.lt_or_gt_of_ne hij with h | h
          · exact .inl (hN.up i j h hj)
          · exact .inr (hN.up j i h hi)
        have hb1' : b = (dk i).fl ∨ b = (dk i).nw := by
          rcases hb1 with e | e | e
          · exact .inl e
          · exact .inr e
          · rw [w1] at e
            cases e
        have hb2' : b = (dk j).fl ∨ b = (dk j).nw := by
          rcases hb2 with e | e | e
          · exact .inl e
          · exact .inr e
          · rw [w2] at e
            cases e
        omega
    · rw [hlen]
    · rw [hlen]
      exact h1
    · rw [hlen]
      exact h4
    · simp only [AP.new]; omega
    · simp only [AP.new]; omega
    · simp only [AP.new]; omega
    · simp only [AP.new]; omega
    · rintro b (rfl | rfl | ⟨i, hi, hbb⟩)
      · omega
      · omega
      · have l1 := hlt i hi
        have w1 := hN.wv i hi
        rcases hbb with e | e | e
        · omega
        · omega
        · rw [w1] at e
          cases e
set_option maxHeartbeats 2000000 in
theorem new_walk {w : World} (a : Option Addr) (len cap : Nat) (zs : List Int) (hz : Ks w nowhere a len zs) (h1 : 1 ≤ len) (h4 : len ≤ 4) :
    Calls Tryd.prog 23 #[.slice a len cap] w (NewPost w zs) := by
  obtain ⟨i0, hi0, hz0, hz1, hz2⟩ := info_parts info_disk
  obtain ⟨hzl, _, hzc⟩ := hz
  obtain ⟨g, off, rfl, hgl, _, hgc⟩ := hzc (by omega)
  have z1 : (1 : Int) ≤ (len : Int) := by omega
  have z4 : (len : Int) ≤ 4 := by omega
  have HC := Lib.hid hgc
  have HL := Lib.hid hzl
  clear hgc hzc hzl
  have hmm := @run_makeMap Tryd.prog
  go_enter Tryd.func23, Tryd.ntmps23
  go_wp2_with fail
  have hP := Blk.new w 82 #[.slice none 0 0, .bool true, .int .i64 (-1), .int .i64 0]
  have hT : Turn nowhere w _ := (Turn.refl _ w).alloc (.cells #[.slice none 0 0, .bool true, .int .i64 (-1), .int .i64 0] 82)
  generalize (w.alloc (.cells #[.slice none 0 0, .bool true, .int .i64 (-1), .int .i64 0] 82)) = w1 at *
  have hw : w.heap.size ≤ w.heap.size := Nat.le_refl _
  generalize hPP : w.heap.size = p at hP ⊢
  have HPP := Lib.hid hPP
  clear hPP hw
  have HT := Lib.hid hT
  clear hT
  have hN0 : NewAt p w1 (.slice none 0 0) zs (fun _ => ⟨0, 0, .slice none 0 0⟩) 0 := { row := World.ownsRow_nil w1 p _ _, fl := fun i hi => (by omega), nw := fun i hi => (by omega), lo := fun i hi => (by omega), up := fun i j _ hi => (by omega), wv := fun i hi => (by omega), ok := fun i hi => (by omega) }
  go_loopg [19] len (fun gk i wr => ∃ (k : Nat) (v : Value) (dk : Nat → DV), k + gk = len ∧ i = .int .i64 (k : Int) ∧ NewAt p wr v zs dk k ∧ Blk wr p 82 #[v, .bool true, .int .i64 (-1), .int .i64 0] ∧ Turn nowhere w wr)
  case atStart => exact ⟨0, _, _, by omega, rfl, hN0, hP, HT.out⟩
  case round =>
    obtain ⟨k, v, dk, hkl, rfl, hN, hPr, hTr⟩ := hrel
    have HN := Lib.hid hN
    have HTr := Lib.hid hTr
    have c0 : wr.cell? ⟨p, 0, none⟩ = some v := hPr.cell 0
    have f0 := hPr.frozen 0
    have HPr := Lib.hid hPr
    clear hN hTr hPr hN0 hP
    by_cases hlt : k < len
    · have hcell : wr.cell? ⟨g, off + k, none⟩ = some (.int .i64 (zs.getD k 0)) := by
        rw [HTr.out.cell (p := ⟨g, off + k, none⟩) hgl (fun e => e)]
        exact HC.out k hlt
      have y1 : (0 : Int) ≤ (k : Int) := by omega
      have y2 : (k : Int) < (len : Int) := by omega
      have hmem : zs.getD k 0 ∈ zs := by
        rw [List.getD_eq_getElem?_getD, List.getElem?_eq_getElem (by rw [HL.out]; exact hlt)]
        exact List.getElem_mem _
      generalize hzk : zs.getD k 0 = z at *
      have HZ := Lib.hid hzk
      clear hzk
      by_cases b1 : z < 1
      · have hn : ¬ sizesOk zs := fun h => by have := h.2.2 z hmem; omega
        have Hn := Lib.hid hn
        clear hn hmem
        go_wp2
        go_ret2
        exact .inr ⟨Hn.out, rfl, HTr.out⟩
      · by_cases b2 : 65536 < z
        · have hn : ¬ sizesOk zs := fun h => by have := h.2.2 z hmem; omega
          have Hn := Lib.hid hn
          have b1 : 1 ≤ z := by omega
          clear hn hmem
          go_wp2
          go_ret2
          exact .inr ⟨Hn.out, rfl, HTr.out⟩
        · have b1 : 1 ≤ z := by omega
          have b2 : z ≤ 65536 := by omega
          obtain ⟨A, n', c', rfl⟩ : ∃ A n' c', v = .slice A n' c' := by
            rcases HN.out.row.2 with ⟨h2, _⟩ | ⟨g, cp, cur, h2, _⟩
            · exact ⟨_, _, _, h2⟩
            · exact ⟨_, _, _, h2⟩
          go_upto_region 9 with (fail)
          refine wp_region_lit ?_
          refine wpList_run (v := .pointer (some ⟨p, 0, none⟩)) rfl (exec_move rfl rfl) ?_;simp only [zz];refine wpList_run (v := .pointer (some ⟨p, 0, none⟩)) rfl (exec_move rfl rfl) ?_;simp only [zz];refine wpList_run (v := .pointer (some ⟨p, 0, none⟩)) rfl (exec_nil rfl rfl) ?_;simp only [zz];refine wpList_run (v := .pointer (some ⟨p, 0, none⟩)) rfl (exec_field (off := 0) (d := 0) rfl rfl (by kernel_rfl)) ?_;simp only [zz];refine wpList_run (v := .slice A n' c') rfl (exec_load1 rfl rfl (by kernel_rfl) c0) ?_;simp only [zz];refine wpList_run (v := .int .i64 z) rfl (exec_move rfl rfl) ?_;simp only [zz];refine wpList_run (v := _) rfl (exec_makeMap rfl) ?_;simp only [zz];refine wpList_run (v := _) rfl (exec_makeMap rfl) ?_;simp only [zz];refine wpList_run (v := .agg #[.int .i64 z, .map (some wr.heap.size), .map (some (wr.alloc (.map #[] 0)).heap.size), .slice none 0 0]) rfl (exec_build3 rfl rfl rfl rfl (build_disk z _ _ _)) ?_;simp only [zz];refine wpList_run (v := _) rfl (exec_buildSlice1 rfl rfl (run_buildSlice_one (v := .agg #[.int .i64 z, .map (some wr.heap.size), .map (some (wr.alloc (.map #[] 0)).heap.size), .slice none 0 0]) Tryd.underlying80 hi0 hz0 (by rw [hz1]; rfl) (by rw [hz1]; rfl) (by omega) (by omega) _)) ?_;simp only [zz]
          have hz : (wr.alloc (.map #[] 0)).heap.size = wr.heap.size + 1 := by simp
          simp only [hz, size2 wr, Value.cells]
          obtain ⟨v5, w5, hrun, hown5, hg5, _, hat5⟩ := run_append_own_at (P := Tryd.prog) (((wr.alloc (.map #[] 0)).alloc (.map #[] 0)).alloc (.cells #[.int .i64 z, .map (some wr.heap.size), .map (some (wr.heap.size + 1)), .slice none 0 0] 88)) p 80 80 88 i0 _ 4 48 Tryd.underlying80 hi0 hz0 hz1 hz2
            rfl (by omega) (.slice A n' c') k _ (((HN.out.row.alloc _).alloc _).alloc _) ⟨wr.heap.size + 1 + 1, 0, none⟩ 1 1 (dCells z ⟨wr.heap.size, wr.heap.size + 1, .slice none 0 0⟩) rfl (new_cells wr z) (by simp [dCells, Value.oneCell']) (by unfold maxLen; omega) (by omega) (by have := HPr.out.lt; simp; omega)
          refine wpList_run (v := v5) rfl (exec_append rfl rfl rfl hrun) ?_;simp only [zz]
          obtain ⟨A5, n5, c5, rfl⟩ := row_form hown5
          have hP5 := newP hg5 HPr.out HN.out.row
          have c05 := hP5.1.cell 0
          have c05' : w5.cell? ⟨p, 0, none⟩ = some (.slice A n' c') := c05
          have f05 := hP5.1.frozen 0
          have HG5 := Lib.hid hg5
          have HO5 := Lib.hid hown5
          have HP5 := Lib.hid hP5
          clear hg5 hown5 hP5 hat5 hrun hz c05
          go_wp2_with fail
          go_roundg (gk - 1)
          case measure => omega
          case rel =>
            refine ⟨k + 1, _, _, by omega, by go_num, new_step HN.out HPr.out HG5.out HO5.out HZ.out b1 b2 HP5.out.1, HP5.out.1.set_ 0 _, ?_⟩
            refine (HTr.out.trans HP5.out.2 fun b hb e => ?_).setCell (p := ⟨p, 0, none⟩) (fun hb => by have := HPP.out; exact (by simp at hb; omega : False).elim) _
            have hlo := (HN.out.row.lt b e.symm).1
            have := HPP.out
            omega
    · obtain rfl : k = len := by omega
      have hall : sizesOk zs := ⟨by rw [HL.out]; exact h1, by rw [HL.out]; exact h4, fun z hz => by
        obtain ⟨i, hi, rfl⟩ := List.mem_iff_getElem.1 hz
        have := HN.out.ok i (by rw [← HL.out]; exact hi)
        rwa [List.getD_eq_getElem?_getD, List.getElem?_eq_getElem hi] at this⟩
      have HA := Lib.hid hall
      have HE := Lib.hid (new_done HN.out HPr.out HL.out h1 h4 HPP.out)
      clear hall
      go_wp2
      go_ret2
      obtain ⟨F', q1, q2⟩ := HE.out
      exact .inl ⟨HA.out, p, F', rfl, q1, HTr.out, q2⟩
end Go.Proofs.YtelipeoilcepbaaDoor
namespace Go.Proofs.YtelipeoilcepbaaDoor
open Go.RowKit
open Wl (B8)
set_option linter.unusedVariables false
set_option linter.unusedSimpArgs false
set_option maxRecDepth 20000
def dkD (d : AD) : Wl.Disk := fun q => (d.read (q : Int)).1
theorem dkD_whole (d : AD) : Wl.Whole (dkD d) := fun q => (d.read (q : Int)).2
def catB (D : Wl.Disk) (P c : Nat) : B8 := (List.range c).flatMap fun i => D (P + i)
theorem catB_succ (D : Wl.Disk) (P c : Nat) : catB D P (c + 1) = catB D P c ++ D (P + c) := by
  unfold catB
  rw [List.range_succ, List.flatMap_append]
  simp
theorem catB_one (D : Wl.Disk) (P : Nat) : catB D P 1 = D P := by rw [catB_succ]; simp [catB]
theorem catB_len {D : Wl.Disk} (h : Wl.Whole D) (P : Nat) : ∀ c, (catB D P c).length = 64 * c
  | 0 => rfl
  | c + 1 => by rw [catB_succ, List.length_append, catB_len h P c, h]; omega
theorem half_cat {D : Wl.Disk} (h : Wl.Whole D) (P : Nat) : ∀ (c i j : Nat), i < c → j < 2 → halfB (catB D P c) (2 * i + j) = Wl.halfAt D (P + i) j
  | 0, _, _, hi, _ => by omega
  | c + 1, i, j, hi, hj => by
    rw [catB_succ]
    have hl := catB_len h P c
    by_cases e : i = c
    · subst e
      unfold halfB Wl.halfAt
      rw [List.drop_append, List.drop_eq_nil_of_le (by rw [hl]; omega), List.nil_append, hl, show 32 * (2 * i + j) - 64 * i = 32 * j by omega]
    · rw [← half_cat h P c i j (by omega) hj]
      unfold halfB
      rw [List.drop_append_of_le_length (by rw [hl]; omega), List.take_append_of_le_length (by rw [List.length_drop, hl]; omega)]
theorem half_cat' {D : Wl.Disk} (h : Wl.Whole D) {P c k : Nat} (hk : k < 2 * c) : halfB (catB D P c) k = Wl.halfAt D (P + k / 2) (k % 2) := by
  rw [← half_cat h P c (k / 2) (k % 2) (by omega) (Nat.mod_lt _ (by omega))]
  congr 1
  omega
theorem stB_cat {D : Wl.Disk} (h : Wl.Whole D) (P : Nat) {c : Nat} (hc : 0 < c) : stB (catB D P c) = Wl.stampOf D P := by
  unfold stB Wl.stampOf Wl.tagAt
  rw [show halfB (catB D P c) 0 = Wl.halfAt D P 0 from half_cat h P c 0 0 hc (by omega), show halfB (catB D P c) 1 = Wl.halfAt D P 1 from half_cat h P c 0 1 hc (by omega)]
theorem tags_cat {D : Wl.Disk} (h : Wl.Whole D) (P c : Nat) (s : Wl.Stamp) : tagsOk s (catB D P c) (2 * c) ↔ Wl.Tagged D P c s := by
  constructor
  · intro a i hi j hj
    have := a (2 * i + j) (by omega)
    rwa [half_cat h P c i j hi hj] at this
  · intro a k hk
    have := a (k / 2) (by omega) (k % 2) (Nat.mod_lt _ (by omega))
    rw [half_cat' h hk]
    unfold Wl.tagAt at this
    rw [this]
    congr 1
    omega
theorem pieces_cat {D : Wl.Disk} (h : Wl.Whole D) (P c : Nat) : pieces (catB D P c) (2 * c) = Wl.textAt D P c := by
  suffices hh : ∀ m, m ≤ c → pieces (catB D P c) (2 * m) = Wl.textAt D P m from hh c (Nat.le_refl _)
  intro m
  induction m with
  | zero => intro _; rfl
  | succ m ih =>
    intro hm
    rw [show 2 * (m + 1) = 2 * m + 1 + 1 by omega, pieces_succ, pieces_succ, ih (by omega), Wl.textAt_succ, show halfB (catB D P c) (2 * m) = Wl.halfAt D (P + m) 0 from half_cat h P c m 0 (by omega) (by omega), half_cat h P c m 1 (by omega) (by omega)]
    simp [Wl.pieceAt]
def dskA (p i : Nat) : Array Value := #[.pointer (some ⟨p, 0, none⟩), .int .i64 (i : Int)]
theorem size_dsk : (Tryd.prog.info? 60).map (·.size) = some 2 := by kernel_rfl
theorem box_dsk (p i : Nat) (w : World) : (Instr.box 60 (.agg (dskA p i))).run Tryd.prog w = .ok (.pointer (some ⟨w.heap.size, 0, none⟩)) (w.alloc (.cells (dskA p i) 60)) := by
  simp [Instr.box, newVar, newRow, Result.andThen, Value.cells]
theorem ret_cell3 {P : Program} {fn : Func} {p u v : Tmp} {ty : TypeId} (h : fn.results = #[.cell p ty, .tmp u, .tmp v]) (tmps : Array Value) (w : World) (g : Nat) (t : TypeId) (cs : Array Value) (d : TypeDesc) {x y : Value}
    (hp : tmps.getD p undef = .pointer (some ⟨g, 0, none⟩)) (hx : tmps.getD u undef = x) (hy : tmps.getD v undef = y) (hg : Blk w g t cs) (hu : P.underlying ty = some d) (hd : (match d with | .struct _ | .array _ _ => true | _ => false) = true) (hi : (P.info? ty).map (·.size) = some cs.size) :
    (results fn tmps).run P w = .ok (.tuple #[.agg cs, x, y]) w := by
  subst hx hy
  have hp' : tmps[p]?.getD undef = .pointer (some ⟨g, 0, none⟩) := by simpa using hp
  simp only [results, h]
  simp [Sem.run_bind, Result.andThen, hp', asAddr, run_loadVar_row w g t ty cs (0, 0) d hg hu hd hi]
theorem build_st0 (W : World) : (Instr.build 67 #[]).run Tryd.prog W = .ok (.agg (stA ⟨0, 0, 0, 0⟩)) W := by kernel_rfl
theorem read_any {w : World} {p : Nat} {F : Nat → Prop} {s : AP} {K : Nat} (h : PlantAt w p F s K) (i : Nat) (d : AD) (hd : s.ds[i]? = some d) (place : Nat) (hp : (place : Int) < d.n) :
    Calls Tryd.prog 61 #[.pointer (some ⟨p, 0, none⟩), .int .i64 (i : Int), .int .i64 (place : Int)] w fun e w' =>
      Turn nowhere w w' ∧ ((s.on = true ∧ ∃ R, e = .returned (.tuple #[.slice (some ⟨R, 0, none⟩) 64 64, .int .i64 0]) ∧ w.heap.size ≤ R ∧ Bs w' (some ⟨R, 0, none⟩) 64 (dkD d place)) ∨ (s.on = false ∧ e = .returned (.tuple #[.slice none 0 0, .int .i64 2]))) := by
  cases hon : s.on with
  | true =>
    refine (read_ok h i d hd hon place ⟨by omega, hp⟩).mono fun e w' ⟨R, h1, h2, h3, h4⟩ => ⟨h4, .inl ⟨rfl, R, h1, h2, ?_⟩⟩
    have h5 := blk_bs (bs := (d.read (place : Int)).1) h3 (off := 0) (k := 64) (by rw [(d.read (place : Int)).2]; exact Nat.le_refl _) (by decide)
    rwa [List.drop_zero, List.take_of_length_le (by rw [(d.read (place : Int)).2]; exact Nat.le_refl _)] at h5
  | false =>
    refine (read_bad h (i : Int) (place : Int) 2 (.inl ⟨by simp [refuseCode, hon], .inl rfl⟩)).mono fun e w' ⟨h1, h2⟩ => ?_
    subst h2
    exact ⟨Turn.refl _ _, .inr ⟨rfl, h1⟩⟩
def Grown (w : World) (B : Nat) (v : Value) (bs : B8) : Prop := (∃ R, v = .slice (some ⟨R, 0, none⟩) bs.length bs.length ∧ Bs w (some ⟨R, 0, none⟩) bs.length bs) ∨ Own w B 5 v bs
theorem Grown.form {w : World} {B : Nat} {v : Value} {bs : B8} (h : Grown w B v bs) : ∃ A c, v = .slice A bs.length c ∧ Bs w A bs.length bs ∧ bs.length ≤ c := by
  rcases h with ⟨R, e, h⟩ | h
  · exact ⟨_, _, e, h, Nat.le_refl _⟩
  · obtain ⟨A, n, c, e, h1, h2, _⟩ := h.form
    obtain rfl : bs.length = n := h1.1
    exact ⟨A, c, e, h1, h2⟩
theorem Grown.still {w w' : World} {B : Nat} {v : Value} {bs : B8} (h : Grown w B v bs) (ht : Turn nowhere w w') : Grown w' B v bs := by
  rcases h with ⟨R, e, h⟩ | h
  · exact .inl ⟨R, e, h.still ht⟩
  · exact .inr (h.still ht)
theorem grown_more {w : World} {B m c : Nat} {v : Value} {bs new : B8} {a : Addr} {ty : TypeId} (h : Grown w B v bs) (hb : Bs w (some a) m new) (hm : 0 < m) (hB : B ≤ w.heap.size) (hsum : bs.length + m ≤ 140737488355328) :
    ∃ v' w', (Builtin.append_ #[38, 38] ty #[v, .slice (some a) m c]).run Tryd.prog w = .ok v' w' ∧ Grown w' B v' (bs ++ new) ∧ Below B w w' := by
  obtain ⟨i0, hi0, hz0, hz1, hz2⟩ := info_parts byteInfo
  obtain ⟨b, off, ea, hcc⟩ := hb.2.2 hm
  injection ea with ea
  have hsrc : ∀ j u, (bcs new)[j]? = some u → w.cell? (a.add j) = some u := fun j u hj => by
    rw [ea, add_at]
    rw [ea] at hb
    exact bs_range hb j u hj
  rcases h with ⟨R, rfl, hR⟩ | hown
  · obtain ⟨v', w', h1, h2, h3⟩ := run_append_arg_grows (P := Tryd.prog) w 38 ty 5 i0 _ 1 1 Tryd.underlying38 hi0 hz0 hz1 hz2 rfl (by omega) ⟨R, 0, none⟩ bs.length bs.length (bcs bs) (by rw [bcs_length, Nat.mul_one]) (fun j u hj => by rw [add_at]; exact bs_range hR j u hj) a m c (bcs new) (by rw [bcs_length, hb.1, Nat.mul_one]) hsrc (by omega) (by unfold maxLen; omega) (by omega)
    refine ⟨v', w', h1, .inr ?_, (Below.refl _ _).grown h3 hB fun k e => by cases e⟩
    unfold Own
    rw [List.length_append, bcs_append, hb.1]
    exact ⟨h2.1, h2.2.imp id fun ⟨g, cap, cur, q1, q2, q3⟩ => ⟨g, cap, cur, q1, Nat.le_trans hB q2, q3⟩⟩
  · obtain ⟨v', w', h1, h2, h3, _⟩ := run_append_own (P := Tryd.prog) w B 38 ty 5 i0 _ 1 1 Tryd.underlying38 hi0 hz0 hz1 hz2 rfl (by omega) v _ _ hown a m c (bcs new) (by rw [bcs_length, hb.1, Nat.mul_one]) hsrc (bcs_one new) (by unfold maxLen; omega) (by omega) hB
    refine ⟨v', w', h1, .inr ?_, (Below.refl _ _).grown h3 hB fun k hk => (hown.lt k hk).1⟩
    unfold Own
    rw [List.length_append, bcs_append, hb.1]
    exact h2
end Go.Proofs.YtelipeoilcepbaaDoor
