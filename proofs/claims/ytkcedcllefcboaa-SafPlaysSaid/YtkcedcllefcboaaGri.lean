/-
  An element put into the middle of a row, as slices.Insert does it, whatever the element's cells; elements taken out of a row, as slices.Delete does it: what its copies leave. No conditions; it imports nothing of the program.
-/
import Derived.Test.YtkcedcllefcboaaGrc
namespace Go.Proofs.Ytkcedcllefcboaa
open Go.RowKit
set_option linter.unusedVariables false
set_option linter.unusedSimpArgs false
theorem flat_take {k : Nat} : ∀ {rs : List (List Value)} (i : Nat), Fit k rs → i ≤ rs.length → rs.flatten.take (i * k) = (rs.take i).flatten
  | rs, 0, _, _ => by simp
  | [], i + 1, _, h => by simp at h
  | r :: rs, i + 1, hf, h => by
    have hr := (hf r (List.mem_cons_self ..)).1
    rw [List.flatten_cons, Nat.succ_mul, List.take_succ_cons, List.flatten_cons, show i * k + k = r.length + i * k from by rw [hr, Nat.add_comm], List.take_length_add_append, flat_take i (fun x hx => hf x (List.mem_cons_of_mem _ hx)) (by simpa using h)]
theorem flat_drop {k : Nat} : ∀ {rs : List (List Value)} (i : Nat), Fit k rs → i ≤ rs.length → rs.flatten.drop (i * k) = (rs.drop i).flatten
  | rs, 0, _, _ => by simp
  | [], i + 1, _, h => by simp at h
  | r :: rs, i + 1, hf, h => by
    have hr := (hf r (List.mem_cons_self ..)).1
    rw [List.flatten_cons, Nat.succ_mul, List.drop_succ_cons, show i * k + k = r.length + i * k from by rw [hr, Nat.add_comm], List.drop_length_add_append, flat_drop i (fun x hx => hf x (List.mem_cons_of_mem _ hx)) (by simpa using h)]
theorem setRow_turn' (w : World) (g : Nat) (cs : Array Value) : Turn (only g) w (w.setRow g cs) := ⟨rfl, rfl, rfl, by simp, fun k _ hk => setRow_other w g k cs hk⟩
theorem orw_block {w : World} {B k b n c : Nat} {et : TypeId} {rs : List (List Value)} (h : Orw w B et k (.slice (some ⟨b, 0, none⟩) n c) rs) : ∃ cur, Blk w b et cur ∧ cur.size = c * k ∧ cur.toList.take (n * k) = rs.flatten ∧ rs.length = n ∧ n ≤ c ∧ c ≤ maxLen ∧ B ≤ b := by
  rcases h.2.2 with ⟨e, _⟩ | ⟨g', cap, cur, e, hb, hg', h1, h2, h3, h4⟩
  · cases e
  · injection e with e1 e2 e3
    injection e1 with e1
    injection e1 with e1 _ _
    subst e1 e2 e3
    exact ⟨cur, hg', h3, h4, rfl, h1, h2, hb⟩
/-- a row made anew out of a block that is known whole -/
theorem orw_of {w : World} {B k b n c : Nat} {et : TypeId} {rs : List (List Value)} {cur : Array Value} (hb : Blk w b et cur) (hB : B ≤ b) (hf : Fit k rs) (hn : rs.length = n) (hnc : n ≤ c) (hc : c ≤ maxLen) (hs : cur.size = c * k) (ht : cur.toList.take (n * k) = rs.flatten) : Orw w B et k (.slice (some ⟨b, 0, none⟩) n c) rs := by
  subst hn
  exact ⟨hf, by rw [flat_len hf], .inr ⟨b, c, cur, rfl, hB, hb, hnc, hc, hs, ht⟩⟩
section
variable {α : Type}
/-- first what stands behind is moved on, then the new one copied into its place -/
theorem sg_ins (l x d : List α) (a : Nat) (h : a + x.length + d.length ≤ l.length) :
    let l1 := l.take (a + x.length) ++ d ++ l.drop (a + x.length + d.length)
    (l1.take a ++ x ++ l1.drop (a + x.length)).take (a + x.length + d.length) = l.take a ++ x ++ d := by
  intro l1
  have h1 : l1.drop (a + x.length) = d ++ l.drop (a + x.length + d.length) := by
    show (l.take (a + x.length) ++ d ++ _).drop _ = _
    rw [List.append_assoc]
    exact List.drop_left' (by rw [List.length_take]; omega)
  have h2 : l1.take a = l.take a := by
    show (l.take (a + x.length) ++ d ++ _).take _ = _
    rw [List.append_assoc, List.take_append_of_le_length (by rw [List.length_take]; omega), List.take_take, Nat.min_eq_left (by omega)]
  rw [h1, h2, ← List.append_assoc, List.take_append_of_le_length (by simp only [List.length_append, List.length_take]; omega)]
  exact List.take_of_length_le (by simp only [List.length_append, List.length_take]; omega)
end
theorem sg_two {α : Type} (l x d : List α) (a : Nat) (h : a + x.length + d.length ≤ l.length) :
    let l1 := l.take a ++ x ++ l.drop (a + x.length)
    (l1.take (a + x.length) ++ d ++ l1.drop (a + x.length + d.length)).take (a + x.length + d.length) = l.take a ++ x ++ d := by
  intro l1
  have hl : l1.length = l.length := sg_len l x a (by omega)
  rw [sg_take l1 d (a + x.length) (by omega), sg_take l x a (by omega)]
section
variable {P : Program} {st et : TypeId} {k by_ : Nat} {z : Value}
/-- there is room: what stands behind is moved on by one, then the element is copied into its place -/
theorem insK_room (E : Elm P st et k by_ z) {ty : TypeId} {w : World} {b n c i g : Nat} {rs : List (List Value)} {x : List Value} (hown : Orw w 0 et k (.slice (some ⟨b, 0, none⟩) n c) rs) (hi : i < n) (hx : Blk w g et x.toArray) (hxk : x.length = k) (hx1 : ∀ u ∈ x, u.oneCell' = true) (hg : b ≠ g) (hroom : n + 1 ≤ c) (tb : TypeId) :
    (∀ lb cb, (Extern.SlicesOverlaps.overlaps #[st, st] #[tb] #[.slice (some ⟨g, 0, none⟩) 1 1, .slice (some ⟨b, (i + 1) * k, none⟩) lb cb]).run P w = .ok (.bool false) w) ∧
    ∃ w3, (Builtin.copy_ #[st, st] ty #[.slice (some ⟨b, (i + 1) * k, none⟩) (n + 1 - (i + 1)) (c - (i + 1)), .slice (some ⟨b, i * k, none⟩) (n + 1 - i) (c - i)]).run P w.drew = .ok (goInt (Nat.min (n + 1 - i) (n + 1 - (i + 1)))) w3 ∧
      ∃ w4, (Builtin.copy_ #[st, st] ty #[.slice (some ⟨b, i * k, none⟩) (n + 1 - i) (c - i), .slice (some ⟨g, 0, none⟩) 1 1]).run P w3 = .ok (goInt (Nat.min 1 (n + 1 - i))) w4 ∧
        Orw w4 0 et k (.slice (some ⟨b, 0, none⟩) (n + 1) c) (rs.take i ++ x :: rs.drop i) ∧ Turn (only b) w w4 := by
  obtain ⟨cur, hcur, hcs, htake, hn, hnc, hcm, _⟩ := orw_block hown
  have hf := hown.1
  have hk := E.pos
  have e1 : (i + 1) * k = i * k + k := Nat.succ_mul i k
  have e2 : (n + 1) * k = n * k + k := Nat.succ_mul n k
  have e3 : (n - i) * k = n * k - i * k := Nat.sub_mul n i k
  have m1 : i * k + k ≤ n * k := by rw [← e1]; exact Nat.mul_le_mul_right k (by omega)
  have m2 : n * k + k ≤ c * k := by rw [← e2]; exact Nat.mul_le_mul_right k hroom
  have hcells : ∀ j u, rs.flatten[j]? = some u → w.cell? ⟨b, j, none⟩ = some u := fun j u h => by
    have := World.ownsRow.cells (g := b) hown.2 rfl j u h
    rwa [add_nat, Nat.zero_add] at this
  have hfd : Fit k (rs.drop i) := hf.sub fun r hr => List.mem_of_mem_drop hr
  have hdk : (rs.drop i).flatten.length = n * k - i * k := by rw [flat_len hfd, List.length_drop, hn, e3]
  have hdd := flat_drop i hf (by omega)
  have hc3 := run_copyK E (w := w.drew) (ty := ty) (g := b) (o := (i + 1) * k) (dLen := n + 1 - (i + 1)) (dCap := c - (i + 1)) (sLen := n + 1 - i) (sCap := c - i) (a := ⟨b, i * k, none⟩) (cs := (rs.drop i).flatten) hcur.drew (by
      rw [hdk, ← e3]
      congr 1
      simp only [Nat.min_def]
      split <;> omega) (fun j u h => by
      rw [add_nat]
      rw [← hdd, List.getElem?_drop] at h
      exact hcells _ _ h) (by rw [hdk, hcs, e1]; omega) (flat_one hfd)
  have hB3 : Blk (w.drew.setRow b (cur.toList.take ((i + 1) * k) ++ (rs.drop i).flatten ++ cur.toList.drop ((i + 1) * k + (rs.drop i).flatten.length)).toArray) b et _ := setRow_heap w.drew b _ _ _ _ hcur.drew
  have hT3 : Turn (only b) w (w.drew.setRow b (cur.toList.take ((i + 1) * k) ++ (rs.drop i).flatten ++ cur.toList.drop ((i + 1) * k + (rs.drop i).flatten.length)).toArray) := (Turn.refl (only b) w).drew.trans (setRow_turn' w.drew b _) fun _ _ e => e
  generalize w.drew.setRow b (cur.toList.take ((i + 1) * k) ++ (rs.drop i).flatten ++ cur.toList.drop ((i + 1) * k + (rs.drop i).flatten.length)).toArray = w3 at *
  have hls : (cur.toList.take ((i + 1) * k) ++ (rs.drop i).flatten ++ cur.toList.drop ((i + 1) * k + (rs.drop i).flatten.length)).length = c * k := by
    rw [sg_len _ _ _ (by rw [hdk, Array.length_toList, hcs, e1]; omega), Array.length_toList, hcs]
  have hx3 := hx.turn hT3 (fun e => hg (by have e : g = b := e; exact e.symm))
  have hc4 := run_copyK E (w := w3) (ty := ty) (g := b) (o := i * k) (dLen := n + 1 - i) (dCap := c - i) (sLen := 1) (sCap := 1) (a := ⟨g, 0, none⟩) (cs := x) hB3 (by
      rw [hxk, show Nat.min 1 (n + 1 - i) = 1 from by simp only [Nat.min_def]; split <;> omega, Nat.one_mul]) (fun j u h => by
      rw [add_nat, Nat.zero_add, hx3.cell]
      simpa using h) (by rw [hxk, List.size_toArray, hls]; omega) hx1
  have hL : (rs.take i ++ x :: rs.drop i).length = n + 1 := by
    rw [List.length_append, List.length_cons, List.length_take, List.length_drop, hn]
    omega
  refine ⟨fun lb cb => ?_, w3, hc3, _, hc4, ?_, hT3.trans (setRow_turn' w3 b _) fun _ _ e => e⟩
  · obtain ⟨i0, hi0, hz1⟩ := E.size
    exact Lib.run_overlaps_apart w st tb et E.und k (fun W => by simp [sizeOf, typeInfo, hi0, hz1]) ⟨g, 0, none⟩ ⟨b, (i + 1) * k, none⟩ 1 1 lb cb (fun e => hg e.symm) et et k (c * k)
      (by
        have h : w.heap[g]? = some (.cells x.toArray et (0, 0)) := hx
        simp [World.shape?, h, hxk])
      (by
        have h : w.heap[b]? = some (.cells cur et (0, 0)) := hcur
        simp [World.shape?, h, hcs]) (by omega) (hx.frozen 0) (hx.frozen k)
  · refine orw_of (setRow_heap w3 b _ _ _ _ hB3) (Nat.zero_le _) ?_ hL hroom hcm ?_ ?_
    · exact (hf.sub fun r hr => List.mem_of_mem_take hr).app (fun r hr => by
        rcases List.mem_cons.1 hr with rfl | hr
        · exact ⟨hxk, hx1⟩
        · exact hfd r hr)
    · rw [List.size_toArray, List.toList_toArray, sg_len _ _ _ (by rw [hls, hxk]; omega), hls]
    · have h := sg_ins cur.toList x (rs.drop i).flatten (i * k) (by rw [hxk, hdk, Array.length_toList, hcs]; omega)
      simp only at h
      rw [hxk, ← e1, hdk] at h
      rw [show (n + 1) * k = (i + 1) * k + (n * k - i * k) from by rw [e1, e2]; omega, List.toList_toArray, List.toList_toArray, hdk, hxk]
      have hti : cur.toList.take (i * k) = (rs.take i).flatten := by
        rw [← flat_take i hf (by omega), ← htake, List.take_take, Nat.min_eq_left (by omega)]
      rw [← e1, h, hti, List.flatten_append, List.flatten_cons, List.append_assoc]
/-- no room: a new row is made, the element and what stands behind it are copied into it -/
theorem insK_grow (E : Elm P st et k by_ z) {ty tn : TypeId} (htn : P.underlying tn = some (.int .i64)) {w : World} {A : Option Addr} {n c i g : Nat} {rs : List (List Value)} {x : List Value} (hown : Orw w 0 et k (.slice A n c) rs) (hi : i < n) (hx : Blk w g et x.toArray) (hxk : x.length = k) (hx1 : ∀ u ∈ x, u.oneCell' = true) (hroom : c < n + 1) (hsz : (n + 1) * by_ ≤ 140737488355328) :
    ∃ b, A = some ⟨b, 0, none⟩ ∧ ∃ g2 c2 w2, w.heap.size ≤ g2 ∧ (Builtin.append_ #[st, tn] st #[.slice A i c, .int .i64 ((n + 1 - i : Nat) : Int)]).run P w = .ok (.slice (some ⟨g2, 0, none⟩) (n + 1) c2) w2 ∧ n + 1 ≤ c2 ∧ c2 ≤ maxLen ∧
      ∃ w3, (Builtin.copy_ #[st, st] ty #[.slice (some ⟨g2, i * k, none⟩) (n + 1 - i) (c2 - i), .slice (some ⟨g, 0, none⟩) 1 1]).run P w2 = .ok (goInt (Nat.min 1 (n + 1 - i))) w3 ∧
        ∃ w4, (Builtin.copy_ #[st, st] ty #[.slice (some ⟨g2, (i + 1) * k, none⟩) (n + 1 - (i + 1)) (c2 - (i + 1)), .slice (some ⟨b, i * k, none⟩) (n - i) (c - i)]).run P w3.drew = .ok (goInt (Nat.min (n - i) (n + 1 - (i + 1)))) w4 ∧
          Orw w4 0 et k (.slice (some ⟨g2, 0, none⟩) (n + 1) c2) (rs.take i ++ x :: rs.drop i) ∧ Turn nowhere w w4 := by
  obtain ⟨i0, hi0, hz0, hz1, hz2⟩ := info_parts E.inf
  have hf := hown.1
  have hkp := E.pos
  obtain ⟨b, rfl⟩ : ∃ b, A = some ⟨b, 0, none⟩ := by
    rcases hown.2.2 with ⟨e, h0⟩ | ⟨g', cap, cur, e, _⟩
    · injection e with e1 e2 e3
      omega
    · injection e with e1 e2 e3
      exact ⟨g', e1⟩
  refine ⟨b, rfl, ?_⟩
  obtain ⟨cur0, hcur0, _, _, hn, hnc, _, _⟩ := orw_block hown
  have e1 : (i + 1) * k = i * k + k := Nat.succ_mul i k
  have e2 : (n + 1) * k = n * k + k := Nat.succ_mul n k
  have e3 : (n - i) * k = n * k - i * k := Nat.sub_mul n i k
  have m1 : i * k + k ≤ n * k := by rw [← e1]; exact Nat.mul_le_mul_right k (by omega)
  have hle1 : (n + 1) * 1 ≤ (n + 1) * by_ := Nat.mul_le_mul_left _ E.byp
  have hcells : ∀ j u, rs.flatten[j]? = some u → w.cell? ⟨b, j, none⟩ = some u := fun j u h => by
    have := World.ownsRow.cells (g := b) hown.2 rfl j u h
    rwa [add_nat, Nat.zero_add] at this
  have hfd : Fit k (rs.drop i) := hf.sub fun r hr => List.mem_of_mem_drop hr
  have hft : Fit k (rs.take i) := hf.sub fun r hr => List.mem_of_mem_take hr
  have hdk : (rs.drop i).flatten.length = n * k - i * k := by rw [flat_len hfd, List.length_drop, hn, e3]
  have htk : (rs.take i).flatten.length = i * k := by rw [flat_len hft, List.length_take, hn, Nat.min_eq_left (by omega)]
  have hdd := flat_drop i hf (by omega)
  have htt := flat_take i hf (by omega)
  have hbw : b < w.heap.size := hcur0.lt
  have hold : (Builtin.firstCells i0.size i (.slice (some ⟨b, 0, none⟩) i c)).run P w.drew = .ok (rs.take i).flatten.toArray w.drew := by
    have hl := run_loadCells_list (P := P) w.drew ⟨b, 0, none⟩ (rs.take i).flatten (fun j u h => by
      rw [add_nat, Nat.zero_add]
      rw [← htt, List.getElem?_take] at h
      split at h
      · exact hcells j u h
      · cases h)
    rw [htk] at hl
    rw [hz1]
    exact hl
  have hby2 : (n + 1 - i) * i0.bytes ≤ (n + 1) * i0.bytes := Nat.mul_le_mul_right _ (by omega)
  have hap := Lib.run_append_grow_zeros (P := P) w st tn st et i0 z .i64 .i64 E.und htn hi0 hz0 (some ⟨b, 0, none⟩) i c (rs.take i).flatten hold (n + 1 - i) (by omega) (by omega) (by omega) (by omega) (by rw [hz2] at *; omega)
    (by rw [hz2, show i + (n + 1 - i) = n + 1 from by omega]; exact growslice_fits hroom hsz)
  rw [show i + (n + 1 - i) = n + 1 from by omega] at hap
  have hGe : n + 1 ≤ grownCap w (n + 1) c et := grownCap_ge w _ _ _
  have hGm : grownCap w (n + 1) c et ≤ maxLen := grownCap_le_maxLen w (n + 1) c et (by unfold maxLen; omega)
  generalize grownCap w (n + 1) c et = G at *
  have m3 : n * k + k ≤ G * k := by rw [← e2]; exact Nat.mul_le_mul_right k hGe
  obtain ⟨ROW, hROW⟩ : ∃ ROW : Array Value, ROW = (rs.take i).flatten.toArray ++ Builtin.zeroCells z.cells (n + 1 - i) ++ Builtin.zeroCells z.cells (G - (n + 1)) := ⟨_, rfl⟩
  rw [← hROW] at hap
  have hRs : ROW.size = G * k := by
    rw [hROW]
    simp only [Array.size_append, Builtin.zeroCells, Array.size_map, Array.size_range, List.size_toArray, htk, E.zsz]
    rw [← Nat.add_mul, ← Nat.add_mul]
    congr 1
    omega
  have hRt : ROW.toList.take (i * k) = (rs.take i).flatten := by
    rw [hROW, Array.toList_append, Array.toList_append, List.append_assoc, List.take_append_of_le_length (by simp only [List.toList_toArray]; omega)]
    exact List.take_of_length_le (by simp only [List.toList_toArray]; omega)
  obtain ⟨g2, hg2⟩ : ∃ g2, g2 = w.heap.size := ⟨_, rfl⟩
  have hB2 : Blk (w.drew.alloc (.cells ROW et)) g2 et ROW := by rw [hg2]; exact Blk.new w.drew _ _
  have hT2 : Turn nowhere w (w.drew.alloc (.cells ROW et)) := ((Turn.refl nowhere w).drew).alloc _
  rw [← hg2] at hap
  generalize w.drew.alloc (.cells ROW et) = w2 at *
  have hg2b : b ≠ g2 := by omega
  have hgg : g ≠ g2 := by have := hx.lt; omega
  have hx2 := hx.turn hT2 (fun e => e)
  have hc3 := run_copyK E (w := w2) (ty := ty) (g := g2) (o := i * k) (dLen := n + 1 - i) (dCap := G - i) (sLen := 1) (sCap := 1) (a := ⟨g, 0, none⟩) (cs := x) hB2 (by
      rw [hxk, show Nat.min 1 (n + 1 - i) = 1 from by simp only [Nat.min_def]; split <;> omega, Nat.one_mul]) (fun j u h => by
      rw [add_nat, Nat.zero_add, hx2.cell]
      simpa using h) (by rw [hxk, hRs]; omega) hx1
  have hB3 : Blk (w2.setRow g2 (ROW.toList.take (i * k) ++ x ++ ROW.toList.drop (i * k + x.length)).toArray) g2 et _ := setRow_heap w2 g2 _ _ _ _ hB2
  have hT3 := setRow_turn' w2 g2 (ROW.toList.take (i * k) ++ x ++ ROW.toList.drop (i * k + x.length)).toArray
  generalize w2.setRow g2 (ROW.toList.take (i * k) ++ x ++ ROW.toList.drop (i * k + x.length)).toArray = w3 at *
  have hls : (ROW.toList.take (i * k) ++ x ++ ROW.toList.drop (i * k + x.length)).length = G * k := by
    rw [sg_len _ _ _ (by rw [hxk, Array.length_toList, hRs]; omega), Array.length_toList, hRs]
  have hc4 := run_copyK E (w := w3.drew) (ty := ty) (g := g2) (o := (i + 1) * k) (dLen := n + 1 - (i + 1)) (dCap := G - (i + 1)) (sLen := n - i) (sCap := c - i) (a := ⟨b, i * k, none⟩) (cs := (rs.drop i).flatten) hB3.drew (by
      rw [hdk, ← e3]
      congr 1
      simp only [Nat.min_def]
      split <;> omega) (fun j u h => by
      rw [add_nat]
      rw [← hdd, List.getElem?_drop] at h
      have := hcells _ _ h
      show w3.cell? ⟨b, i * k + j, none⟩ = _
      rw [hT3.cell (p := ⟨b, i * k + j, none⟩) (by show b < w2.heap.size; have := hT2.size; omega) hg2b, hT2.cell (p := ⟨b, i * k + j, none⟩) hbw (fun e => e)]
      exact this) (by rw [hdk, List.size_toArray, hls, e1]; omega) (flat_one hfd)
  have hL : (rs.take i ++ x :: rs.drop i).length = n + 1 := by
    rw [List.length_append, List.length_cons, List.length_take, List.length_drop, hn]
    omega
  refine ⟨g2, G, w2, by omega, hap, hGe, hGm, w3, hc3, _, hc4, ?_, ?_⟩
  · refine orw_of (setRow_heap w3.drew g2 _ _ _ _ hB3.drew) (Nat.zero_le _) ?_ hL hGe hGm ?_ ?_
    · exact hft.app (fun r hr => by
        rcases List.mem_cons.1 hr with rfl | hr
        · exact ⟨hxk, hx1⟩
        · exact hfd r hr)
    · rw [List.size_toArray, List.toList_toArray, sg_len _ _ _ (by rw [hls, hdk, e1]; omega), hls]
    · have h := sg_two ROW.toList x (rs.drop i).flatten (i * k) (by rw [hxk, hdk, Array.length_toList, hRs]; omega)
      simp only at h
      rw [hxk, ← e1, hdk] at h
      rw [show (n + 1) * k = (i + 1) * k + (n * k - i * k) from by rw [e1, e2]; omega, List.toList_toArray, List.toList_toArray, hdk, hxk, ← e1, h, hRt, List.flatten_append, List.flatten_cons, List.append_assoc]
  · refine ((hT2.trans hT3 fun q hq e => ?_).trans (((Turn.refl (only g2) w3).drew).trans (setRow_turn' w3.drew g2 _) fun _ _ e => e) fun q hq e => ?_)
    · have e : q = g2 := e
      omega
    · have e : q = g2 := e
      omega
end
end Go.Proofs.Ytkcedcllefcboaa
