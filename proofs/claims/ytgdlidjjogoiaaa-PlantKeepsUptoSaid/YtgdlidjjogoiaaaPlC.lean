/-
  plant's disks: reading, forgetting
-/
import Derived.Test.YtgdlidjjogoiaaaPlB
import Derived.Test.YtgdlidjjogoiaaaStore
import Derived.Deep.Cut
namespace Go.Proofs.Ytgdlidjjogoiaaa
open Go.RowKit
set_option linter.unusedVariables false
theorem zero_sector (w : World) : (zeroValue 66).run Try.prog w = .ok (eS.val zeroSec) w := by kernel_rfl
theorem map_sector : Try.prog.underlying 59 = some (.map 3 66) := Try.underlying59
theorem sec_one (s : Sec) : ∀ v ∈ (bcs s.1).toArray.toList, v.oneCell' = true := fun v hv => bcs_one s.1 v (by simpa using hv)
theorem size_sec (s : Sec) : (Try.prog.info? 66).map (·.size) = some (bcs s.1).toArray.size := by rw [size_sector]; simp [bcs_length, s.2]
/-- what a disk tells of a sector -/
def reads (nf ff : Int → Option Sec) (place : Int) : Sec := match nf place with
  | some s => s
  | none => (ff place).getD zeroSec
theorem sec_size (s : Sec) : 64 = (bcs s.1).toArray.size := by simp [bcs_length, s.2]
theorem load_blk {w : World} {g : Nat} {t : TypeId} {s : Sec} (h : Blk w g t (bcs s.1).toArray) (W : World) (hW : W.heap = w.heap) :
    (Instr.loadAt 66 (.pointer (some ⟨g, 0, none⟩))).run Try.prog W = .ok (rowV s.1) W :=
  load_sector (range_of_blk h 0 _ fun j v hv => by
    rw [Nat.zero_add]
    simpa using hv) W hW
theorem read_walk (db o nw fl n1 n2 : Nat) (nf ff : Int → Option Sec) (place : Int) (C : Array Value) (w : World)
    (hd : Blk w db 62 C) (h1 : C[o + 1]? = some (.map (some fl))) (h2 : C[o + 2]? = some (.map (some nw))) (hm1 : MapAt w kI eS fl n1 ff) (hm2 : MapAt w kI eS nw n2 nf) (hx : (Lit.int .i64 place).wf = true) :
    Calls Try.prog 36 #[.pointer (some ⟨db, o, none⟩), .int .i64 place] w fun e w' => e = .returned (rowV (reads nf ff place).1) ∧ Turn nowhere w w' := by
  have ldb := hd.lt
  go_enter Try.func36, Try.ntmps36
  go_upto_region 1 with (fail)
  change Code.wp _ _ _ _ (w.alloc (.cells (bcs zeroSec.1).toArray 66))
  have hR := Blk.new w 66 (bcs zeroSec.1).toArray
  have hd1 := hd.alloc (.cells (bcs zeroSec.1).toArray 66)
  have ha := hm1.alloc (.cells (bcs zeroSec.1).toArray 66)
  have hb := hm2.alloc (.cells (bcs zeroSec.1).toArray 66)
  have ht : Turn nowhere w _ := (Turn.refl _ _).alloc (.cells (bcs zeroSec.1).toArray 66)
  generalize (w.alloc (.cells (bcs zeroSec.1).toArray 66)) = w1 at *
  generalize hR0 : w.heap.size = R at *
  have HR := Lib.hid hR0
  have Ht := Lib.hid ht
  clear hR0 ht hm1 hm2 hd
  have c1 : w1.cell? ⟨db, o + 1, none⟩ = some (.map (some fl)) := (hd1.cell _).trans h1
  have c2 : w1.cell? ⟨db, o + 2, none⟩ = some (.map (some nw)) := (hd1.cell _).trans h2
  have lk : (Instr.lookup 59 (.map (some nw)) (.int .i64 place) true).run Try.prog w1 = .ok (.tuple #[rowV ((nf place).getD zeroSec).1, .bool (nf place).isSome]) w1 := hb.look_ok map_sector (zero_sector _) hx
  cases hn : nf place with
  | some s =>
    rw [hn] at lk
    have Hr : Hid (reads nf ff place = s) := Lib.hid (by unfold reads; rw [hn])
    simp only [Option.getD_some, Option.isSome_some] at lk
    have Hn := Lib.hid hn
    clear hn
    go_wp2_with (first
      | (refine wpList_store_row rfl 66 (.tmp 5) (.tmp 14) rfl (bcs s.1).toArray (Blk.new w1 _ _) rfl rfl (sec_size s) (size_sec s) (sec_one s) ?_; intro w2 hb2 ht2)
      | (refine wpList_run rfl (exec_load (ty := 66) (x := .tmp 5) rfl rfl (load_blk hb2 _ rfl)) ?_)
      | (refine wpList_store_row rfl 66 (.tmp 4) (.tmp 17) rfl (bcs s.1).toArray ((hR.alloc _).turn ht2 (Nat.ne_of_lt hR.lt)) rfl rfl (sec_size s) (size_sec s) (sec_one s) ?_; intro w3 hb3 ht3))
    refine bodyPost_ret (v := rowV s.1) (results_cell_row rfl _ _ R 66 _ (0, 0) _ rfl hb3 Try.underlying66 rfl (size_sec s)) rfl ⟨by rw [Hr.out], ?_⟩
    refine ((Ht.out.alloc _).trans ht2 fun k hk e => ?_).trans ht3 fun k hk e => ?_
    · have := Ht.out.size
      exact (by unfold only at e; omega : False).elim
    · have := HR.out
      exact (by unfold only at e; omega : False).elim
  | none =>
    rw [hn] at lk
    have Hr : Hid (reads nf ff place = (ff place).getD zeroSec) := Lib.hid (by unfold reads; rw [hn])
    simp only [Option.getD_none, Option.isSome_none] at lk
    have Hn := Lib.hid hn
    clear hn
    go_wp2_with (first
      | (refine wpList_store_row rfl 66 (.tmp 5) (.tmp 14) rfl (bcs zeroSec.1).toArray (Blk.new w1 _ _) rfl rfl (sec_size zeroSec) (size_sec zeroSec) (sec_one zeroSec) ?_; intro w2 hb2 ht2; have c1' : w2.cell? ⟨db, o + 1, none⟩ = some (.map (some fl)) := (((hd1.alloc _).turn ht2 (Nat.ne_of_lt hd1.lt)).cell _).trans h1)
      | (refine wpList_run rfl (exec_lookup (M := .map (some fl)) (k := .int .i64 place) rfl rfl rfl (((ha.alloc _).turn ht2 (Nat.ne_of_lt ha.lt)).lookup map_sector (zero_sector _) hx)) ?_)
      | (refine wpList_store_row rfl 66 (.tmp 4) (.tmp 23) rfl (bcs ((ff place).getD zeroSec).1).toArray ((hR.alloc _).turn ht2 (Nat.ne_of_lt hR.lt)) rfl rfl (sec_size _) (size_sec _) (sec_one _) ?_; intro w3 hb3 ht3))
    refine bodyPost_ret (v := rowV ((ff place).getD zeroSec).1) (results_cell_row rfl _ _ R 66 _ (0, 0) _ rfl hb3 Try.underlying66 rfl (size_sec _)) rfl ⟨by rw [Hr.out], ?_⟩
    refine ((Ht.out.alloc _).trans ht2 fun k hk e => ?_).trans ht3 fun k hk e => ?_
    · have := Ht.out.size
      exact (by unfold only at e; omega : False).elim
    · have := HR.out
      exact (by unfold only at e; omega : False).elim
theorem forget_walk (db o : Nat) (C : Array Value) (w : World) (hd : Blk w db 62 C) (hs : o + 3 < C.size) :
    Calls Try.prog 39 #[.pointer (some ⟨db, o, none⟩)] w fun e w' => e = .returned (.tuple #[]) ∧
      Blk w' db 62 ((C.setIfInBounds (o + 2) (.map (some w.heap.size))).setIfInBounds (o + 3) (.slice none 0 0)) ∧ MapAt w' kI eS w.heap.size 0 (fun _ => none) ∧ Turn (only db) w w' := by
  have c2 : (w.cell? ⟨db, o + 2, none⟩) = some (C[o + 2]'(by omega)) := (hd.cell _).trans (Array.getElem?_eq_getElem _)
  have c3 : (w.cell? ⟨db, o + 3, none⟩) = some (C[o + 3]'(by omega)) := (hd.cell _).trans (Array.getElem?_eq_getElem _)
  have f2 := hd.frozen (o + 2)
  have f3 := hd.frozen (o + 3)
  have ldb := hd.lt
  have hmm := @run_makeMap Try.prog
  go_enter Try.func39, Try.ntmps39
  go_wp2
  go_end0
  refine ⟨rfl, ((hd.set_ _ _).set_ _ _).alloc _, ?_, (((Turn.refl _ _).at_ _ _).at_ _ _).alloc _⟩
  have h := MapAt.made kI eS ((w.setCell ⟨db, o + 2, none⟩ (.map (some w.heap.size))).setCell ⟨db, o + 3, none⟩ (.slice none 0 0))
  simpa using h
end Go.Proofs.Ytgdlidjjogoiaaa
