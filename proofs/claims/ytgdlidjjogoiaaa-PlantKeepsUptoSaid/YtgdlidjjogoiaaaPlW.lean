/-
  what a boot makes of the writes that wait: the pure part, and one step of it in memory
-/
import Derived.Test.YtgdlidjjogoiaaaPlV
namespace Go.Proofs.Ytgdlidjjogoiaaa
open Go.RowKit Go.Maps
set_option linter.unusedVariables false
def bootOne (k : Int) (j : Nat) (ds : List AD) : List AD := match ds[j]? with
  | some d => (match d.ws with
    | x :: r => ds.set j { d with fl := bootFl k x.2.1 x.2.2 d.fl, ws := r }
    | [] => ds)
  | none => ds
def bootRun (kf : Nat → Int) : Nat → Nat → List AD → List AD
  | 0, _, ds => ds
  | f + 1, i, ds => match pick ds ds.length with
    | some j => bootRun kf f (i + 1) (bootOne (kf i) j ds)
    | none => ds
/-- how many writes wait -/
def total (ds : List AD) : Nat := (ds.map fun d => d.ws.length).sum
theorem total_set : ∀ (ds : List AD) (j : Nat) (d d' : AD), ds[j]? = some d → d.ws.length = d'.ws.length + 1 → total ds = total (ds.set j d') + 1
  | [], j, d, d', h, _ => by simp at h
  | e :: r, 0, d, d', h, hl => by
    simp only [List.getElem?_cons_zero, Option.some.injEq] at h
    subst h
    simp [total, hl]
    omega
  | e :: r, j + 1, d, d', h, hl => by
    have := total_set r j d d' (by simpa using h) hl
    simp only [List.set_cons_succ, total, List.map_cons, List.sum_cons] at this ⊢
    omega
theorem bootOne_length (k : Int) (j : Nat) (ds : List AD) : (bootOne k j ds).length = ds.length := by
  unfold bootOne
  split
  · split
    · simp
    · rfl
  · rfl
theorem total_zero : ∀ (ds : List AD), (∀ d ∈ ds, d.ws = []) → total ds = 0
  | [], _ => rfl
  | d :: r, h => by
    have h1 := total_zero r fun e he => h e (List.mem_cons_of_mem _ he)
    have h2 := h d (List.mem_cons_self ..)
    simp only [total, List.map_cons, List.sum_cons, h2] at h1 ⊢
    simpa using h1
theorem pick_none (ds : List AD) : ∀ k, pick ds k = none → ∀ i, i < k → waitsAt ds i = 0
  | 0, _, i, hi => by omega
  | k + 1, h, i, hi => by
    unfold pick at h
    split at h
    · cases hp : pick ds k with
      | none => rw [hp] at h; cases h
      | some m =>
        rw [hp] at h
        simp only at h
        split at h <;> cases h
    · rename_i hw
      by_cases e : i = k
      · subst e
        omega
      · exact pick_none ds k h i (by omega)
theorem pick_none_ws {ds : List AD} (h : pick ds ds.length = none) : ∀ (i : Nat) (d : AD), ds[i]? = some d → d.ws = [] := by
  intro i d hi
  have := pick_none ds _ h i (List.getElem?_eq_some_iff.1 hi).1
  simp only [waitsAt, hi] at this
  exact List.eq_nil_of_length_eq_zero this
/-- a list of writes in memory is one in the midst -/
theorem Waits.mid {w : World} {v : Value} {ws : List Wt} (h : Waits w v ws) : ∃ A cap, v = .slice A ws.length cap ∧ ws.length ≤ cap ∧ cap ≤ 9223372036854775807 ∧ (0 < ws.length → ∃ g off, A = some ⟨g, off, none⟩ ∧ w.rangeAt g off (ws.flatMap wtCells) ∧ ∃ cs, Blk w g 69 cs) := by
  obtain ⟨h1, h2⟩ := h
  rcases h2 with ⟨rfl, h2⟩ | ⟨g, cap, cur, rfl, _, h4, h5, h6, h7, h8⟩
  · exact ⟨none, 0, by rw [h2], by omega, by omega, fun h => by omega⟩
  · refine ⟨some ⟨g, 0, none⟩, cap, rfl, h5, by unfold maxLen at h6; omega, fun _ => ⟨g, 0, rfl, fun j u hj => ?_, cur, h4⟩⟩
    rw [Nat.zero_add, cell_of_row w g j cur _ _ h4]
    rw [← h8, List.getElem?_take] at hj
    split at hj
    · simpa using hj
    · cases hj
theorem DiskAt.mid {w : World} {C : Array Value} {i : Nat} {d : AD} {v : DV} {K : Nat} (h : DiskAt w C i d v K) : MidAt w C i d v K := by
  obtain ⟨A, cap, e, h2⟩ := h.ws.mid
  exact { c0 := h.c0, c1 := h.c1, fl := h.fl, ws := ⟨A, cap, by rw [← e]; exact h.c3, h2⟩, wf := h.wf, n0 := h.n0 }
theorem DisksAt.mid {w : World} {db : Nat} {C : Array Value} {ds : List AD} {dv : Nat → DV} {K : Nat} (h : DisksAt w db C ds dv K) : MidsAt w db C ds dv K where
  blk := h.blk
  size := h.size
  at_ i d hi := (h.at_ i d hi).mid
  apart i j hi hj hij e := h.apart i j hi hj hij _ (.inl rfl) (.inl e)
theorem MidAt.keep {w w' : World} {C C' : Array Value} {i : Nat} {d : AD} {v : DV} {K : Nat} {F : Nat → Prop} (h : MidAt w C i d v K) (ht : Turn F w w') (h1 : ¬ F v.fl) (h2 : ∀ g cs, F g → ¬ Blk w g 69 cs) (hC : ∀ j, j < 4 → C'[i * 4 + j]? = C[i * 4 + j]?) : MidAt w' C' i d v K where
  c0 := (hC 0 (by omega)).trans h.c0
  c1 := (hC 1 (by omega)).trans h.c1
  fl := by
    obtain ⟨n1, g1, g2⟩ := h.fl
    exact ⟨n1, g1, g2.turn ht h1⟩
  ws := by
    obtain ⟨A, cap, g1, g2, g3, g4⟩ := h.ws
    refine ⟨A, cap, (hC 3 (by omega)).trans g1, g2, g3, fun hp => ?_⟩
    obtain ⟨g, off, e, hr, cs, hb⟩ := g4 hp
    have hn : ¬ F g := fun hF => h2 g cs hF hb
    exact ⟨g, off, e, fun j u hj => by rw [ht.cell (p := ⟨g, off + j, none⟩) hb.lt hn]; exact hr j u hj, cs, hb.turn ht hn⟩
  wf := h.wf
  n0 := h.n0
/-- one step of a boot -/
theorem boot_step {w : World} {db : Nat} {C : Array Value} {ds : List AD} {dv : Nat → DV} {K : Nat} (h : MidsAt w db C ds dv K) {j : Nat} (hj : j < ds.length) (hw : 0 < waitsAt ds j) (k q : Int) (hq : bits .and .i64 k 3 = q) (hq4 : q = 0 ∨ q = 1 ∨ q = 2 ∨ q = 3) (hK : K < 1099511627776) :
    Calls Try.prog 38 #[.pointer (some ⟨db, j * 4, none⟩), .int .i64 k] w fun e w' => e = .returned (.tuple #[]) ∧ (∃ C', MidsAt w' db C' (bootOne q j ds) dv K) ∧ Turn (fun b => b = db ∨ b = (dv j).fl) w w' ∧ total ds = total (bootOne q j ds) + 1 := by
  have hd : ds[j]? = some ds[j] := List.getElem?_eq_getElem hj
  have hA := h.at_ j _ hd
  have hw' : 0 < ds[j].ws.length := by simpa [waitsAt, hd] using hw
  generalize hdd : ds[j] = d at *
  obtain ⟨n1, hn1, hm⟩ := hA.fl
  obtain ⟨A, cap, g1, g2, g3, g4⟩ := hA.ws
  obtain ⟨g, off, rfl, hr, cs, hb⟩ := g4 hw'
  cases hws : d.ws with
  | nil => rw [hws] at hw'; simp at hw'
  | cons x r =>
    have hsz := h.size
    rw [hws] at hr g1 g2 hn1
    have hrx : w.rangeAt g off (wtCells x) := fun m u hm' => hr m u (by
      rw [List.flatMap_cons, List.getElem?_append_left (List.getElem?_eq_some_iff.1 hm').1]
      exact hm')
    refine (boot_walk db (j * 4) (dv j).fl n1 g off (x :: r).length cap d.fl x k q C w h.blk hA.c1 g1 (by omega) hm hrx (hA.wf x (by rw [hws]; exact List.mem_cons_self ..)) (by simp) g2 g3 (by simp at hn1; omega) hq hq4).mono ?_
    rintro e w' ⟨rfl, q1, q2, q3⟩
    have e1 : bootOne q j ds = ds.set j { d with fl := bootFl q x.2.1 x.2.2 d.fl, ws := r } := by simp [bootOne, hd, hws]
    refine ⟨rfl, ⟨C.setIfInBounds (j * 4 + 3) (.slice (some ⟨g, cutOff cap off, none⟩) ((x :: r).length - 1) (cap - 1)), ?_⟩, q3, ?_⟩
    · obtain ⟨s1, s2, s3⟩ := set3 C j (.slice (some ⟨g, cutOff cap off, none⟩) ((x :: r).length - 1) (cap - 1)) (by omega)
      have hFw : ∀ b cs, (b = db ∨ b = (dv j).fl) → ¬ Blk w b 69 cs := by
        rintro b cs (rfl | rfl) hb'
        · exact Blk.ne_ h.blk hb' (by decide) rfl
        · exact hm.ne hb' rfl
      have hng : ¬ (g = db ∨ g = (dv j).fl) := fun e => hFw g cs e hb
      rw [e1]
      refine ⟨q1, by rw [List.length_set, Array.size_setIfInBounds]; exact hsz, fun i di hi => ?_, fun i m hi hm' => by rw [List.length_set] at hi hm'; exact h.apart i m hi hm'⟩
      by_cases e : i = j
      · subst e
        rw [List.getElem?_set, if_pos rfl, if_pos hj] at hi
        cases hi
        refine { c0 := (s3 0 (by omega)).trans hA.c0, c1 := (s3 1 (by omega)).trans hA.c1, fl := ⟨n1 + 1, by simp at hn1 ⊢; omega, q2⟩, ws := ⟨some ⟨g, cutOff cap off, none⟩, cap - 1, s2, by simp at g2 ⊢; omega, by omega, fun hp => ?_⟩, wf := fun y hy => hA.wf y (by rw [hws]; exact List.mem_cons_of_mem _ hy), n0 := hA.n0 }
        have hc1 : cap ≠ 1 := by
          simp at g2 hp
          omega
        refine ⟨g, off + 66, by simp [cutOff, hc1], fun m u hm' => ?_, cs, hb.turn q3 hng⟩
        rw [q3.cell (p := ⟨g, off + 66 + m, none⟩) hb.lt hng]
        have := hr (66 + m) u (by
          rw [List.flatMap_cons, List.getElem?_append_right (by rw [wtCells_length]; omega), wtCells_length, show 66 + m - 66 = m from by omega]
          exact hm')
        rwa [← Nat.add_assoc] at this
      · rw [List.getElem?_set, if_neg (Ne.symm e)] at hi
        have hil := (List.getElem?_eq_some_iff.1 hi).1
        refine (h.at_ i di hi).keep q3 ?_ hFw (fun m hm' => s1 _ (by omega))
        rintro (e' | e')
        · obtain ⟨_, _, hm2⟩ := (h.at_ i di hi).fl
          exact hm2.ne h.blk e'.symm
        · exact h.apart i j hil hj e e'
    · rw [e1]
      exact total_set ds j d _ hd (by rw [hws]; rfl)
end Go.Proofs.Ytgdlidjjogoiaaa
