/-
  A PLANT IN MEMORY: its blocks, its disks, told by plain data. No conditions.
-/
import Derived.Test.YtgdlidjjogoiaaaPlA
import Derived.Test.YtgdlidjjogoiaaaPlE
namespace Go.Proofs.Ytgdlidjjogoiaaa
open Go.RowKit Go.Maps
set_option linter.unusedVariables false
/-- a disk: how many sectors, what is flushed, what waits -/
structure AD where
  n : Int
  fl : Int → Option Sec
  ws : List Wt
/-- a plant -/
structure AP where
  ds : List AD
  on : Bool
  fuse : Int
  steps : Int
/-- what was written last of all that waits -/
def lastW (ws : List Wt) : Int → Option Sec := ws.foldl (fun f x => upd f x.2.1 x.2.2) (fun _ => none)
theorem lastW_snoc (ws : List Wt) (x : Wt) : lastW (ws ++ [x]) = upd (lastW ws) x.2.1 x.2.2 := by simp [lastW, List.foldl_append]
/-- where a disk's parts lie -/
structure DV where
  fl : Nat
  nw : Nat
  wv : Value
def DV.has (v : DV) (b : Nat) : Prop := b = v.fl ∨ b = v.nw ∨ v.wv.ownBlock = some b
/-- disk i, its cells in C -/
structure DiskAt (w : World) (C : Array Value) (i : Nat) (d : AD) (v : DV) (K : Nat) : Prop where
  c0 : C[i * 4]? = some (.int .i64 d.n)
  c1 : C[i * 4 + 1]? = some (.map (some v.fl))
  c2 : C[i * 4 + 2]? = some (.map (some v.nw))
  c3 : C[i * 4 + 3]? = some v.wv
  ne : v.fl ≠ v.nw
  fl : ∃ n1, n1 + d.ws.length ≤ K ∧ MapAt w kI eS v.fl n1 d.fl
  nw : MapAt w kI eS v.nw d.ws.length (lastW d.ws)
  ws : Waits w v.wv d.ws
  wf : ∀ x ∈ d.ws, (Lit.int .i64 x.2.1).wf = true
  n0 : 1 ≤ d.n ∧ d.n ≤ 65536
theorem DiskAt.keep {w w' : World} {C C' : Array Value} {i : Nat} {d : AD} {v : DV} {K K' : Nat} (h : DiskAt w C i d v K) (hb : ∀ b, v.has b → w'.heap[b]? = w.heap[b]?) (hC : ∀ j, j < 4 → C'[i * 4 + j]? = C[i * 4 + j]?) (hK : K ≤ K') : DiskAt w' C' i d v K' where
  c0 := (hC 0 (by omega)).trans h.c0
  c1 := (hC 1 (by omega)).trans h.c1
  c2 := (hC 2 (by omega)).trans h.c2
  c3 := (hC 3 (by omega)).trans h.c3
  ne := h.ne
  fl := by
    obtain ⟨n1, h1, h2⟩ := h.fl
    exact ⟨n1, by omega, h2.block (hb _ (.inl rfl))⟩
  nw := h.nw.block (hb _ (.inr (.inl rfl)))
  ws := h.ws.keep fun g hg => hb g (.inr (.inr hg))
  wf := h.wf
  n0 := h.n0
/-- the disks of a plant, in the cells C of block db -/
structure DisksAt (w : World) (db : Nat) (C : Array Value) (ds : List AD) (dv : Nat → DV) (K : Nat) : Prop where
  blk : Blk w db 62 C
  size : ds.length * 4 ≤ C.size
  at_ : ∀ i d, ds[i]? = some d → DiskAt w C i d (dv i) K
  apart : ∀ i j, i < ds.length → j < ds.length → i ≠ j → ∀ b, (dv i).has b → ¬ (dv j).has b
/-- the blocks that a plant has -/
def PlF (p db n : Nat) (dv : Nat → DV) (b : Nat) : Prop := b = p ∨ b = db ∨ ∃ i, i < n ∧ (dv i).has b
/-- block p is the plant s, in the blocks of F; K: how much may have been written -/
def PlantAt (w : World) (p : Nat) (F : Nat → Prop) (s : AP) (K : Nat) : Prop :=
  ∃ db cap C dv, Blk w p 58 (plantCells db s.ds.length cap s.on s.fuse s.steps) ∧ DisksAt w db C s.ds dv K ∧ F = PlF p db s.ds.length dv ∧
    1 ≤ s.ds.length ∧ s.ds.length ≤ 4 ∧ -9223372036854775808 ≤ s.fuse ∧ s.fuse ≤ 9223372036854775807 ∧ 0 ≤ s.steps ∧ s.steps ≤ K
/-- from s to s' -/
def Goes2 (w : World) (p : Nat) (F : Nat → Prop) (w' : World) (s' : AP) (K' : Nat) : Prop :=
  ∃ F', PlantAt w' p F' s' K' ∧ Turn F w w' ∧ ∀ k, F' k → F k ∨ w.heap.size ≤ k
section
variable {w w' : World} {p db : Nat} {C : Array Value} {ds : List AD} {dv : Nat → DV} {K : Nat} {F : Nat → Prop} {s : AP}
theorem DisksAt.lt (h : DisksAt w db C ds dv K) {i b : Nat} (hi : i < ds.length) (hb : (dv i).has b) : b < w.heap.size := by
  have hd := h.at_ i ds[i] (List.getElem?_eq_getElem hi)
  rcases hb with rfl | rfl | hb
  · obtain ⟨_, _, hm⟩ := hd.fl
    exact hm.lt
  · exact hd.nw.lt
  · exact (hd.ws.lt b hb).2
theorem DisksAt.ne (h : DisksAt w db C ds dv K) {i b g : Nat} {t : TypeId} {cs : Array Value} (hi : i < ds.length) (hb : (dv i).has b) (hg : Blk w g t cs) (ht : t ≠ 69) : g ≠ b := by
  have hd := h.at_ i ds[i] (List.getElem?_eq_getElem hi)
  rcases hb with rfl | rfl | hb
  · obtain ⟨_, _, hm⟩ := hd.fl
    exact hm.ne hg
  · exact hd.nw.ne hg
  · rcases hd.ws.2 with ⟨e1, _⟩ | ⟨g', cap, cur, e1, _, h4, _⟩
    · rw [e1] at hb
      cases hb
    · rw [e1] at hb
      injection hb with hb
      have hb' : g' = b := hb
      subst hb'
      exact Blk.ne_ hg (g' := g') (cs' := cur) h4 ht
theorem DisksAt.keep (h : DisksAt w db C ds dv K) (hdb : w'.heap[db]? = w.heap[db]?) (hb : ∀ i, i < ds.length → ∀ b, (dv i).has b → w'.heap[b]? = w.heap[b]?) {K' : Nat} (hK : K ≤ K') : DisksAt w' db C ds dv K' where
  blk := hdb.trans h.blk
  size := h.size
  at_ i d hi := (h.at_ i d hi).keep (hb i (List.getElem?_eq_some_iff.1 hi).1) (fun _ _ => rfl) hK
  apart := h.apart
theorem PlantAt.lt (h : PlantAt w p F s K) {k : Nat} (hk : F k) : k < w.heap.size := by
  obtain ⟨db, cap, C, dv, h1, h2, rfl, _⟩ := h
  rcases hk with rfl | rfl | ⟨i, hi, hb⟩
  · exact h1.lt
  · exact h2.blk.lt
  · exact h2.lt hi hb
theorem PlantAt.keep (h : PlantAt w p F s K) (hb : ∀ k, F k → w'.heap[k]? = w.heap[k]?) : PlantAt w' p F s K := by
  obtain ⟨db, cap, C, dv, h1, h2, rfl, h3⟩ := h
  exact ⟨db, cap, C, dv, (hb p (.inl rfl)).trans h1, h2.keep (hb db (.inr (.inl rfl))) (fun i hi b hb' => hb b (.inr (.inr ⟨i, hi, hb'⟩))) (Nat.le_refl _), rfl, h3⟩
theorem PlantAt.turn {G : Nat → Prop} (h : PlantAt w p F s K) (ht : Turn G w w') (hG : ∀ k, F k → ¬ G k) : PlantAt w' p F s K := h.keep fun k hk => ht.block k (h.lt hk) (hG k hk)
theorem PlantAt.mono (h : PlantAt w p F s K) {K' : Nat} (hK : K ≤ K') : PlantAt w p F s K' := by
  obtain ⟨db, cap, C, dv, h1, h2, h3, h4, h5, h6, h7, h8, h9⟩ := h
  exact ⟨db, cap, C, dv, h1, h2.keep rfl (fun _ _ _ _ => rfl) hK, h3, h4, h5, h6, h7, h8, by omega⟩
theorem Goes2.of_turn (h : PlantAt w p F s K) (ht : Turn nowhere w w') : Goes2 w p F w' s K := ⟨F, h.turn ht fun _ _ h => h, ht.mono fun _ _ h => h.elim, fun _ h => .inl h⟩
/-- the plant's own block is turned -/
theorem PlantAt.top {on : Bool} {fuse steps : Int} (h : PlantAt w p F s K) {db cap : Nat} {C : Array Value} {dv : Nat → DV} (h1 : Blk w' p 58 (plantCells db s.ds.length cap on fuse steps)) (h2 : DisksAt w db C s.ds dv K) (hF : F = PlF p db s.ds.length dv) (ht : Turn (only p) w w')
    (hb : Blk w p 58 (plantCells db s.ds.length cap s.on s.fuse s.steps)) {K' : Nat} (hK : K ≤ K') (q1 : -9223372036854775808 ≤ fuse) (q2 : fuse ≤ 9223372036854775807) (q3 : 0 ≤ steps) (q4 : steps ≤ K') :
    Goes2 w p F w' { s with on := on, fuse := fuse, steps := steps } K' := by
  obtain ⟨_, _, _, _, _, _, _, g1, g2, _⟩ := id h
  refine ⟨F, ⟨db, cap, C, dv, h1, h2.keep (ht.block _ h2.blk.lt ?_) (fun i hi b hb' => ht.block _ (h2.lt hi hb') ?_) hK, hF, g1, g2, q1, q2, q3, q4⟩, ht.mono ?_, fun k hk => .inl hk⟩
  · exact Blk.ne_ h2.blk hb (by decide)
  · exact fun e => h2.ne hi hb' hb (by decide) e.symm
  · intro k _ e
    rw [hF]
    exact .inl e
end
end Go.Proofs.Ytgdlidjjogoiaaa
