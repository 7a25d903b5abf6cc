/-
  field's codes: places, sizes; writing a byte for a character. Conditions: the text's characters are the code's.
-/
import Derived.Test.YtgdlidjjogoiaaaGreatDoorFdC
namespace Go.Proofs.YtgdlidjjogoiaaaGreatDoor
open Go.RowKit
open Fdd
set_option linter.unusedVariables false
theorem row_ne {w : World} {B : Nat} {e : TypeId} {sz n g : Nat} {v : Value} {xs : List Value} {t : TypeId} {cs : Array Value} (h : w.ownsRow B e sz v n xs) (hg : Blk w g t cs) (ht : t ≠ e) : ¬ (some g = v.ownBlock) := by
  rcases h.2 with ⟨rfl, _⟩ | ⟨g', cap, cur, rfl, _, hg', _⟩
  · intro e'; cases e'
  · intro e'
    have e2 : g = g' := Option.some.inj e'
    subst e2
    have h1 : w.heap[g]? = some (.cells cs t (0, 0)) := hg
    rw [h1] at hg'
    injection hg' with h2
    injection h2 with _ h3
    exact ht h3
/-- from v to v': what v owns may turn, and nothing else that there was -/
structure Ext (w w' : World) (v v' : Value) : Prop where
  tr : Turn (fun b => some b = v.ownBlock) w w'
  sub : ∀ b, some b = v'.ownBlock → b < w.heap.size → some b = v.ownBlock
theorem Ext.refl (w : World) (v : Value) : Ext w w v v := ⟨Turn.refl _ _, fun _ h _ => h⟩
theorem Ext.trans {w w1 w' : World} {v v1 v' : Value} (h : Ext w w1 v v1) (g : Ext w1 w' v1 v') : Ext w w' v v' where
  tr := h.tr.trans g.tr fun k hk e => h.sub k e hk
  sub := fun b e hb => h.sub b (g.sub b e (Nat.lt_of_lt_of_le hb h.tr.size)) hb
theorem Ext.still {w w1 : World} {v v' : Value} {w' : World} (h : Ext w w1 v v') (ht : Turn nowhere w1 w') : Ext w w' v v' := ⟨h.tr.trans ht fun _ _ e => e.elim, h.sub⟩
theorem Ext.behind {w w1 w' : World} {v v' : Value} (ht : Turn nowhere w w1) (h : Ext w1 w' v v') : Ext w w' v v' := ⟨(ht.mono fun _ _ e => e.elim).trans h.tr fun _ _ e => e, fun b e hb => h.sub b e (Nat.lt_of_lt_of_le hb ht.size)⟩
theorem Blk.ext {w w' : World} {v v' : Value} {g : Nat} {t : TypeId} {cs : Array Value} (h : Blk w g t cs) (he : Ext w w' v v') (hn : ¬ (some g = v.ownBlock)) : Blk w' g t cs := h.turn he.tr hn
theorem byteInfo : (Tryz.prog.info? 5).map (fun i => (i.zero, i.size, i.bytes)) = some (some (.int .u8 0), 1, 1) := by kernel_rfl
theorem append_news {w : World} {B : Nat} {v : Value} {bs : List UInt8} (hown : Own w B 5 v bs) (hB : B ≤ w.heap.size) (xs : List UInt8) (hlen : bs.length + xs.length ≤ 140737488355328) {m c : Nat} (hm : xs.length = m) :
    ∃ A c' w', (Builtin.append_ #[22, 22] 22 #[v, .slice (some ⟨w.heap.size, 0, none⟩) m c]).run Tryz.prog (w.alloc (.cells (bcs xs).toArray 5)) = .ok (.slice A (bs.length + m) c') w' ∧
      Own w' B 5 (.slice A (bs.length + m) c') (bs ++ xs) ∧ Ext w w' v (.slice A (bs.length + m) c') := by
  subst hm
  obtain ⟨i0, hi0, hz0, hz1, hz2⟩ := info_parts byteInfo
  obtain ⟨v', w', h1, h2, h3, _, h5⟩ := run_append_own_at (P := Tryz.prog) (w.alloc (.cells (bcs xs).toArray 5)) B 22 22 5 i0 _ 1 1 Tryz.underlying22 hi0 hz0 hz1 hz2
    rfl (by omega) v bs.length (bcs bs) (hown.alloc _) ⟨w.heap.size, 0, none⟩ xs.length c (bcs xs) (by rw [bcs_length, Nat.mul_one]) (fun j u hj => by
      rw [add_nat, Nat.zero_add, (Blk.new w 5 (bcs xs).toArray).cell j]
      simpa using hj) (bcs_one xs) (by unfold maxLen; omega) (by omega) (by simp; omega)
  obtain ⟨A, c', rfl⟩ := own_form h2
  refine ⟨A, c', w', h1, ?_, ((Turn.refl _ w).alloc _).grown h3 fun b e hb => e.symm, fun b e hb => ?_⟩
  · unfold Own
    rw [List.length_append, bcs_append]
    exact h2
  · rcases h5 with h5 | h5
    · rw [← h5]
      exact e
    · rw [h5] at e
      have : b = (w.alloc (.cells (bcs xs).toArray 5)).heap.size := Option.some.inj e
      simp at this
      omega
theorem u8_of (x : UInt8) : ((x.toNat : Int).toNat).toUInt8 = x := by simp
theorem index_walk (l : List UInt8) (x : UInt8) (w : World) :
    Calls Tryz.prog 72 #[strV l, .int .u8 (x.toNat : Int)] w fun e w' => e = .returned (.int .i64 (Lib.indexByte l x)) ∧ w' = w := by
  have h := Any.strings_IndexByte Tryz.lays137 ⟨l.toArray⟩ (x.toNat : Int) w
  rw [u8_of] at h
  exact h
theorem place_walk {w : World} {c : Nat} {ch : List UInt8} (hc : Blk w c 9 #[strV ch]) (x : UInt8) (hx : x ∈ ch) (hl : ch.length ≤ 16) :
    Calls Tryz.prog 71 #[.int .u8 (x.toNat : Int), ptrTo c] w fun e w' => e = .returned (.int .u8 ((ch.idxOf x : Nat) : Int)) ∧ w' = w := by
  unfold ptrTo
  have c0 : w.cell? ⟨c, 0, none⟩ = some (strV ch) := hc.cell 0
  have h := index_walk ch x w
  rw [index_mem ch x hx] at h
  have hlt := idx_lt hx
  generalize ch.idxOf x = k at *
  clear hx hc
  go_enter Tryz.func71, Tryz.ntmps71
  go_wp2_with (go_at_call 72; refine h.mono ?_; rintro e w1 ⟨rfl, rfl⟩)
  go_ret
  exact ⟨rfl, rfl⟩
theorem psize_walk (n : Nat) (hn : n ≤ 1000) (w : World) :
    Calls Tryz.prog 73 #[.int .i64 (n : Int)] w fun e w' => e = .returned (.int .i64 (((n + 1) / 2 : Nat) : Int)) ∧ w' = w := by
  go_enter Tryz.func73, Tryz.ntmps73
  go_wp2
  go_ret
  exact ⟨ret_int (show ((n : Int) + 1) / 2 = (((n + 1) / 2 : Nat) : Int) by omega), rfl⟩
theorem ssize_walk (n : Nat) (w : World) :
    Calls Tryz.prog 76 #[.int .i64 (n : Int)] w fun e w' => e = .returned (.int .i64 (n : Int)) ∧ w' = w := by
  go_enter Tryz.func76, Tryz.ntmps76
  go_wp2
  go_ret
  exact ⟨rfl, rfl⟩
end Go.Proofs.YtgdlidjjogoiaaaGreatDoor
