/-
  plant's Clone: a plant of its own that is the same. No conditions.
-/
import Derived.Test.YteedjfgandgbkaaPlCa
import Derived.Test.YteedjfgandgbkaaJa0
import Derived.Test.YteedjfgandgbkaaPlLb
namespace Go.Proofs.Yteedjfgandgbkaa
open Go.RowKit Go.Maps
set_option linter.unusedVariables false
theorem size_disk : (Try.prog.info? 59).map (·.size) = some 4 := by kernel_rfl
theorem size_plant : (Try.prog.info? 55).map (·.size) = some 4 := by kernel_rfl
theorem zero_disk (W : World) : (zeroValue 59).run Try.prog W = .ok (.agg #[.int .i64 0, .map none, .map none, .slice none 0 0]) W := by kernel_rfl
theorem zero_plant (W : World) : (zeroValue 55).run Try.prog W = .ok (.agg #[.slice none 0 0, .bool false, .int .i64 0, .int .i64 0]) W := by kernel_rfl
def diskV (z : Int) (a b : Nat) (A : Option Addr) (n c : Nat) : Array Value := #[.int .i64 z, .map (some a), .map (some b), .slice A n c]
theorem build_disk4 (z : Int) (a b : Nat) (A : Option Addr) (n c : Nat) (W : World) : (Instr.build 59 #[(0, .int .i64 z), (1, .map (some a)), (2, .map (some b)), (3, .slice A n c)]).run Try.prog W = .ok (.agg (diskV z a b A n c)) W := by
  refine run_build W _ _ _ ?_
  obtain ⟨i0, hi0, hz0, hz1, hz2⟩ := info_parts info_disk
  have hp : (match Try.prog.underlying 59 with | some (.struct fs) => fs.toList.mapM (fun f => (Try.prog.info? f.type).map fun i => (f.offset, i.size)) | _ => none) = some [(0, 1), (1, 1), (2, 1), (3, 1)] := by kernel_rfl
  have hu := Try.underlying59
  rw [hu] at hp
  unfold Program.built
  simp only [hi0, hu, hz0]
  simp only at hp
  rw [hp]
  rfl
theorem load_disk {w : World} {g o : Nat} {z : Int} {a b : Nat} {A : Option Addr} {n c : Nat} {t : TypeId} {C : Array Value} (h : Blk w g t C) (h0 : C[o]? = some (.int .i64 z)) (h1 : C[o + 1]? = some (.map (some a))) (h2 : C[o + 2]? = some (.map (some b))) (h3 : C[o + 3]? = some (.slice A n c)) :
    (Instr.loadAt 59 (.pointer (some ⟨g, o, none⟩))).run Try.prog w = .ok (.agg (diskV z a b A n c)) w :=
  run_loadAt_mid w g o 59 [.int .i64 z, .map (some a), .map (some b), .slice A n c] _ (fun j v hv => by
    rw [h.cell]
    match j, hv with
    | 0, hv => rw [Nat.add_zero, h0]; exact hv
    | 1, hv => rw [h1]; exact hv
    | 2, hv => rw [h2]; exact hv
    | 3, hv => rw [h3]; exact hv
    | j + 4, hv => simp at hv) Try.underlying59 rfl (by rw [size_disk]; rfl)
theorem load_plant {w : World} {p db n c : Nat} {on : Bool} {fuse steps : Int} (h : Blk w p 55 (plantCells db n c on fuse steps)) :
    (Instr.loadAt 55 (.pointer (some ⟨p, 0, none⟩))).run Try.prog w = .ok (.agg (plantCells db n c on fuse steps)) w :=
  run_loadAt_mid w p 0 55 (plantCells db n c on fuse steps).toList _ (range_of_blk h 0 _ fun j v hv => by rw [Nat.zero_add]; simpa using hv) Try.underlying55 rfl (by rw [size_plant]; rfl)
/-- the disks that were cloned so far: D their block, B where new blocks begin -/
structure CloneAt (B : Nat) (wr : World) (q D : Nat) (s : AP) (CS : Array Value) (dk : Nat → DV) (k K : Nat) : Prop where
  pl : Blk wr q 55 (plantCells D s.ds.length s.ds.length s.on s.fuse s.steps)
  blk : Blk wr D 59 CS
  size : CS.size = s.ds.length * 4
  at_ : ∀ i d, i < k → s.ds[i]? = some d → DiskAt wr CS i d (dk i) K
  fresh : ∀ i, i < k → ∀ b, (dk i).has b → B ≤ b ∧ b < wr.heap.size
  apart : ∀ i j, i < k → j < k → i ≠ j → ∀ b, (dk i).has b → ¬ (dk j).has b
theorem DiskAt.off {w : World} {C : Array Value} {i : Nat} {d : AD} {v : DV} {K : Nat} {g : Nat} {t : TypeId} {cs : Array Value} (h : DiskAt w C i d v K) (hg : Blk w g t cs) (ht : t ≠ 66) : ¬ v.has g := by
  rintro (rfl | rfl | hb)
  · obtain ⟨_, _, hm⟩ := h.fl
    exact hm.ne hg rfl
  · exact h.nw.ne hg rfl
  · rcases h.ws.2 with ⟨e1, _⟩ | ⟨g', cap, cur, e1, _, h4, _⟩
    · rw [e1] at hb
      cases hb
    · rw [e1] at hb
      injection hb with hb
      have hb' : g' = g := hb
      subst hb'
      exact Blk.ne_ hg (g' := g') (cs' := cur) h4 ht rfl
theorem CloneAt.still {B : Nat} {wr w' : World} {q D : Nat} {s : AP} {CS : Array Value} {dk : Nat → DV} {k K : Nat} (h : CloneAt B wr q D s CS dk k K) (ht : Turn nowhere wr w') : CloneAt B w' q D s CS dk k K where
  pl := h.pl.turn ht fun e => e
  blk := h.blk.turn ht fun e => e
  size := h.size
  at_ i d hi hd := (h.at_ i d hi hd).keep (fun b hb => ht.block b (h.fresh i hi b hb).2 fun e => e) (fun _ _ => rfl) (Nat.le_refl _)
  fresh i hi b hb := ⟨(h.fresh i hi b hb).1, Nat.lt_of_lt_of_le (h.fresh i hi b hb).2 ht.size⟩
  apart := h.apart
theorem CloneAt.step {B : Nat} {wr w' : World} {q D : Nat} {s : AP} {CS C' : Array Value} {dk : Nat → DV} {k K : Nat} (h : CloneAt B wr q D s CS dk k K) (hk : k < s.ds.length) {d : AD} (hd : s.ds[k]? = some d) {v : DV} (L : Nat)
    (hnew : ∀ b, v.has b → L ≤ b ∧ b < wr.heap.size) (hold : ∀ i, i < k → ∀ b, (dk i).has b → b < L) (hL : B ≤ L)
    (hv : ∀ w'' C'', (∀ b, v.has b → w''.heap[b]? = wr.heap[b]?) → (∀ j, j < 4 → C''[k * 4 + j]? = C'[k * 4 + j]?) → DiskAt w'' C'' k d v K)
    (hb : Blk w' D 59 C') (hs : C'.size = CS.size) (hC : ∀ j, ¬ (k * 4 ≤ j ∧ j < k * 4 + 4) → C'[j]? = CS[j]?) (ht : Turn (only D) wr w') (hqD : q ≠ D) (hDn : ¬ v.has D) :
    CloneAt B w' q D s C' (setV dk k v) (k + 1) K := by
  have hself : setV dk k v k = v := by simp [setV]
  have hoth : ∀ i, i < k → setV dk k v i = dk i := fun i hi => by simp [setV, Nat.ne_of_lt hi]
  have hDi : ∀ i, i < k → ¬ (dk i).has D := fun i hi => (h.at_ i s.ds[i] hi (List.getElem?_eq_getElem (by omega))).off h.blk (by decide)
  refine ⟨h.pl.turn ht hqD, hb, hs.trans h.size, fun i d' hi hd' => ?_, fun i hi b hbb => ?_, fun i j hi hj hij b hb1 hb2 => ?_⟩
  · by_cases e : i = k
    · subst e
      rw [hd] at hd'
      cases hd'
      rw [hself]
      exact hv w' C' (fun b hbb => ht.block b (hnew b hbb).2 fun e => hDn (by rw [show D = b from e.symm]; exact hbb)) fun _ _ => rfl
    · have hik : i < k := by omega
      rw [hoth i hik]
      exact (h.at_ i d' hik hd').keep (fun b hbb => ht.block b (h.fresh i hik b hbb).2 fun e => hDi i hik (by rw [show D = b from e.symm]; exact hbb)) (fun j hj => hC _ (by omega)) (Nat.le_refl _)
  · by_cases e : i = k
    · subst e
      rw [hself] at hbb
      have := hnew b hbb
      have := ht.size
      omega
    · rw [hoth i (by omega)] at hbb
      have := h.fresh i (by omega) b hbb
      have := ht.size
      omega
  · by_cases e1 : i = k
    · subst e1
      rw [hself] at hb1
      rw [hoth j (by omega)] at hb2
      have := hnew b hb1
      have := hold j (by omega) b hb2
      omega
    · by_cases e2 : j = k
      · subst e2
        rw [hself] at hb2
        rw [hoth i (by omega)] at hb1
        have := hnew b hb2
        have := hold i (by omega) b hb1
        omega
      · rw [hoth i (by omega)] at hb1
        rw [hoth j (by omega)] at hb2
        exact h.apart i j (by omega) (by omega) hij b hb1 hb2
theorem CloneAt.done {B : Nat} {wr : World} {q D : Nat} {s : AP} {CS : Array Value} {dk : Nat → DV} {K : Nat} (h : CloneAt B wr q D s CS dk s.ds.length K) (hq : B ≤ q) (hD : B ≤ D) (h1 : 1 ≤ s.ds.length) (h4 : s.ds.length ≤ 4) (f1 : -9223372036854775808 ≤ s.fuse) (f2 : s.fuse ≤ 9223372036854775807) (s1 : 0 ≤ s.steps) (s2 : s.steps ≤ K) :
    ∃ F', PlantAt wr q F' s K ∧ ∀ b, F' b → B ≤ b := by
  refine ⟨PlF q D s.ds.length dk, ⟨D, s.ds.length, CS, dk, h.pl, ⟨h.blk, by rw [h.size]; exact Nat.le_refl _, fun i d hi => h.at_ i d (List.getElem?_eq_some_iff.1 hi).1 hi, h.apart⟩, rfl, h1, h4, f1, f2, s1, s2⟩, ?_⟩
  rintro b (rfl | rfl | ⟨i, hi, hb⟩)
  · exact hq
  · exact hD
  · exact (h.fresh i hi b hb).1
def CloneP (w : World) (s : AP) (K : Nat) (e : Ending) (w' : World) : Prop := ∃ q F', e = .returned (.pointer (some ⟨q, 0, none⟩)) ∧ PlantAt w' q F' s K ∧ Turn nowhere w w' ∧ ∀ k, F' k → w.heap.size ≤ k
/-- what the drawn region reads of the clone's disks and the one at hand -/
def ClS (q D n bd : Nat) (on : Bool) (fuse steps : Int) (V : Array Value) (W : World) : Prop := Blk W q 55 (plantCells D n n on fuse steps) ∧ Blk W bd 59 V
set_option maxHeartbeats 4000000 in
set_option maxRecDepth 20000 in
theorem clone_walk {w : World} {p : Nat} {F : Nat → Prop} {s : AP} {K : Nat} (h : PlantAt w p F s K) (hK : K < 1099511627776) :
    Calls Try.prog 7 #[.pointer (some ⟨p, 0, none⟩)] w (CloneP w s K) := by
  have HP := Lib.hid h
  obtain ⟨db, cap, C, dv, hb, hds, hF, l1, l4, f1, f2, s1, s2⟩ := h
  obtain ⟨n, hn⟩ : ∃ n, n = s.ds.length := ⟨_, rfl⟩
  have HB := Lib.hid hb
  have HDS := Lib.hid hds
  have HN := Lib.hid hn
  have n1 : 1 ≤ n := by omega
  have n4 : n ≤ 4 := by omega
  have HF := Lib.hid (And.intro f1 (And.intro f2 (And.intro s1 s2)))
  have hload := load_plant hb
  rw [← hn] at hload
  have HLD := Lib.hid hload
  clear hb hds hn hF l1 l4 f1 f2 s1 s2 hload
  go_enter Try.func7, Try.ntmps7
  go_upto_region 1 with fail
  refine wp_region_lit ?_
  refine wpList_run (v := .pointer (some ⟨p, 0, none⟩)) rfl (exec_move rfl rfl) ?_
  simp only [Act.put, List.setIfInBounds_toArray, List.set_cons_zero, List.set_cons_succ]
  refine wpList_run (v := .pointer (some ⟨p, 0, none⟩)) rfl (exec_nil rfl rfl) ?_
  simp only [Act.put, List.setIfInBounds_toArray, List.set_cons_zero, List.set_cons_succ]
  refine wpList_run (v := .agg (plantCells db n cap s.on s.fuse s.steps)) (w' := w) rfl (exec_load rfl rfl HLD.out) ?_
  simp only [Act.put, List.setIfInBounds_toArray, List.set_cons_zero, List.set_cons_succ]
  refine wpList_run (v := _) rfl (gx_alloc rfl (zero_plant _)) ?_
  simp only [Act.put, List.setIfInBounds_toArray, List.set_cons_zero, List.set_cons_succ]
  refine wpList_store_row rfl 55 _ _ rfl (g := w.heap.size) (t := 55) (plantCells db n cap s.on s.fuse s.steps) (Blk.new w _ _) rfl rfl rfl (by rw [size_plant]; rfl) (by intro v hv; simp [plantCells] at hv; rcases hv with rfl | rfl | rfl | rfl <;> rfl) ?_
  intro w2 hb2 ht2
  simp only [Act.put]
  have ht2' : Turn nowhere w w2 := ((Turn.refl nowhere w).alloc _).trans ht2 fun k hk e => by have : k = w.heap.size := e; omega
  obtain ⟨q, hq⟩ : ∃ q, q = w.heap.size := ⟨_, rfl⟩
  rw [← hq] at hb2 ⊢
  have HB2 := Lib.hid hb2
  have HT2 := Lib.hid ht2'
  have HQ := Lib.hid hq
  have HBp := Lib.hid (HB.out.turn ht2' fun e => e)
  rw [← HN.out] at HBp
  clear hb2 ht2 ht2' hq
  go_upto_region 2 with fail
  refine wp_region_lit ?_
  refine wpList_run (v := .pointer (some ⟨p, 0, none⟩)) rfl (exec_move rfl rfl) ?_
  simp only [Act.put, List.setIfInBounds_toArray, List.set_cons_zero, List.set_cons_succ]
  refine wpList_run (v := .pointer (some ⟨p, 0, none⟩)) rfl (exec_nil rfl rfl) ?_
  simp only [Act.put, List.setIfInBounds_toArray, List.set_cons_zero, List.set_cons_succ]
  refine wpList_run (v := .pointer (some ⟨p, 0, none⟩)) rfl (exec_field (off := 0) (d := 0) rfl rfl (by kernel_rfl)) ?_
  simp only [Act.put, List.setIfInBounds_toArray, List.set_cons_zero, List.set_cons_succ]
  refine wpList_run (v := .slice (some ⟨db, 0, none⟩) n cap) rfl (exec_load1 rfl rfl (by kernel_rfl) (HBp.out.cell 0)) ?_
  simp only [Act.put, List.setIfInBounds_toArray, List.set_cons_zero, List.set_cons_succ]
  refine wpList_run (v := .int .i64 (n : Int)) rfl (gx_len rfl rfl Try.underlying53) ?_
  simp only [Act.put, List.setIfInBounds_toArray, List.set_cons_zero, List.set_cons_succ]
  obtain ⟨j0, hj0, hjz, hj1, hj2⟩ := info_parts info_disk
  have hmk := run_makeSlice (P := Try.prog) w2 53 59 j0 _ Try.underlying53 hj0 hjz .i64 .i64 (n : Int) (n : Int) (by omega) (Int.le_refl _) (by rw [hj1]; omega) (by rw [hj2]; omega) (by omega)
  rw [Int.toNat_natCast, hj1] at hmk
  have hms : (madeCells (Value.agg #[.int .i64 0, .map none, .map none, .slice none 0 0]).cells (n * 4)).size = n * 4 := by
    rw [size_madeCells]
  generalize madeCells (Value.agg #[.int .i64 0, .map none, .map none, .slice none 0 0]).cells (n * 4) = CS0 at *
  refine wpList_run (v := _) rfl (gx_make rfl rfl rfl hmk) ?_
  simp only [Act.put, List.setIfInBounds_toArray, List.set_cons_zero, List.set_cons_succ]
  refine wpList_run (v := .pointer (some ⟨q, 0, none⟩)) rfl (exec_field (off := 0) (d := 0) rfl rfl (by kernel_rfl)) ?_
  simp only [Act.put, List.setIfInBounds_toArray, List.set_cons_zero, List.set_cons_succ]
  have hb3 := Blk.new w2 59 CS0
  have hb4 := (HB2.out.alloc (.cells CS0 59)).set_ 0 (.slice (some ⟨w2.heap.size, 0, none⟩) n n)
  have hq4 : q < w2.heap.size := HB2.out.lt
  obtain ⟨D, hD⟩ : ∃ D, D = w2.heap.size := ⟨_, rfl⟩
  rw [← hD] at hb3 hb4 hq4
  have hqD : q ≠ D := by omega
  have hb5 := hb3.far (p := ⟨q, 0, none⟩) (fun e => hqD e.symm) (.slice (some ⟨D, 0, none⟩) n n)
  have ht5 : Turn nowhere w ((w2.alloc (.cells CS0 59)).setCell ⟨q, 0, none⟩ (.slice (some ⟨D, 0, none⟩) n n)) := (HT2.out.alloc _).setCell (p := ⟨q, 0, none⟩) (fun hh => by have := HQ.out; exact (by simp at hh; omega : False).elim) _
  have hcl : CloneAt w.heap.size ((w2.alloc (.cells CS0 59)).setCell ⟨q, 0, none⟩ (.slice (some ⟨D, 0, none⟩) n n)) q D s CS0 (fun _ => ⟨0, 0, .slice none 0 0⟩) 0 K := {
    pl := by rw [← HN.out]; exact hb4
    blk := hb5
    size := by rw [← HN.out]; exact hms
    at_ := fun i d hi => by omega
    fresh := fun i hi => by omega
    apart := fun i j hi => by omega }
  have c2 : (w2.alloc (.cells CS0 59)).cell? ⟨q, 0, none⟩ = some (.slice (some ⟨db, 0, none⟩) n cap) := (HB2.out.alloc _).cell 0
  have e2 : (w2.alloc (.cells CS0 59)).frozen? ⟨q, 0, none⟩ = false := (HB2.out.alloc _).frozen 0
  rw [← hD]
  have HCL := Lib.hid hcl
  have HT5 := Lib.hid ht5
  have HQD := Lib.hid hqD
  have HDD := Lib.hid (show w.heap.size ≤ D by have := HQ.out; omega)
  clear hb3 hb4 hb5 ht5 hcl hmk hms hD hq4 hqD hj0 hjz hj1 hj2
  go_upto_region 3 with fail
  clear c2 e2
  generalize ((w2.alloc (.cells CS0 59)).setCell ⟨q, 0, none⟩ (.slice (some ⟨D, 0, none⟩) n n)) = w5 at *
  have HBp5 := Lib.hid (HB.out.turn HT5.out fun e => e)
  rw [← HN.out] at HBp5
  have c5 : w5.cell? ⟨p, 0, none⟩ = some (.slice (some ⟨db, 0, none⟩) n cap) := HBp5.out.cell 0
  go_wp2_with fail
  go_loopg [21] n (fun gk i wr => ∃ (k : Nat) (CS : Array Value) (dk : Nat → DV), k + gk = n ∧ i = .int .i64 (k : Int) ∧ CloneAt w.heap.size wr q D s CS dk k K ∧ Turn nowhere w wr)
  case atStart => exact ⟨0, CS0, _, by omega, rfl, HCL.out, HT5.out⟩
  case round =>
    obtain ⟨k, CS, dk, hkl, rfl, hcl, htr⟩ := hrel
    have HKL := Lib.hid hkl
    have HC := Lib.hid hcl
    have HT := Lib.hid htr
    clear hkl hcl htr HCL HT5 HBp5 HBp HT2 HB2 HLD
    by_cases hlt : k < n
    · have y2 : (k : Int) < (n : Int) := by omega
      have hks : k < s.ds.length := by rw [← HN.out]; exact hlt
      obtain ⟨d, hd⟩ : ∃ d, s.ds[k]? = some d := ⟨_, List.getElem?_eq_getElem hks⟩
      have hD0 := HDS.out.at_ k d hd
      have hlt0 : ∀ b, (dv k).has b → b < w.heap.size := fun b hb => HDS.out.lt hks hb
      obtain ⟨A3, n3, c3, hwv⟩ := hD0.ws.form
      have hdb := HDS.out.blk.turn HT.out fun e => e
      have hl62 := load_disk hdb hD0.c0 hD0.c1 hD0.c2 (by rw [← hwv]; exact hD0.c3)
      have HL62 := Lib.hid hl62
      have HDK := Lib.hid hD0
      have HLT0 := Lib.hid hlt0
      have HWV := Lib.hid hwv
      have HKS := Lib.hid hks
      have HDD2 := Lib.hid hd
      clear hD0 hlt0 hwv hdb hl62 hks hd
      go_upto_region 5 with fail
      refine wp_region_lit ?_
      refine wpList_run (v := .int .i64 (k : Int)) rfl (exec_move rfl rfl) ?_
      simp only [Act.put, List.setIfInBounds_toArray, List.set_cons_zero, List.set_cons_succ]
      refine wpList_run (v := .pointer (some ⟨db, k * 4, none⟩)) (w' := wr) rfl (gx_iaddr (off := 0) (n := n) (c := cap) (i := k) (k := .i64) rfl rfl rfl Try.underlying53 size_disk hlt (by omega)) ?_
      simp only [Act.put, List.setIfInBounds_toArray, List.set_cons_zero, List.set_cons_succ]
      refine wpList_run (v := .agg (diskV d.n (dv k).fl (dv k).nw A3 n3 c3)) (w' := wr) rfl (exec_load rfl rfl HL62.out) ?_
      simp only [Act.put, List.setIfInBounds_toArray, List.set_cons_zero, List.set_cons_succ]
      refine wpList_run (v := _) rfl (gx_alloc rfl (zero_disk _)) ?_
      simp only [Act.put, List.setIfInBounds_toArray, List.set_cons_zero, List.set_cons_succ]
      refine wpList_run (v := .int .i64 (k : Int)) rfl (gx_assign rfl rfl) ?_
      simp only [Act.put, List.setIfInBounds_toArray, List.set_cons_zero, List.set_cons_succ]
      refine wpList_store_row rfl 59 _ _ rfl (g := wr.heap.size) (t := 59) (diskV d.n (dv k).fl (dv k).nw A3 n3 c3) (Blk.new wr _ _) rfl rfl rfl (by rw [size_disk]; rfl) (by intro v hv; simp [diskV] at hv; rcases hv with rfl | rfl | rfl | rfl <;> rfl) ?_
      intro w6 hb6 ht6
      simp only [Act.put]
      have ht6' : Turn nowhere wr w6 := ((Turn.refl nowhere wr).alloc _).trans ht6 fun k hk e => by have : k = wr.heap.size := e; omega
      obtain ⟨bd, hbd⟩ : ∃ bd, bd = wr.heap.size := ⟨_, rfl⟩
      rw [← hbd] at hb6 ⊢
      have HB6 := Lib.hid hb6
      have HT6 := Lib.hid (HT.out.trans ht6' fun _ _ e => e)
      have HC6 := Lib.hid (HC.out.still ht6')
      clear hb6 ht6 ht6' hbd HC HT HL62
      go_upto_region 6 with fail
      have hS0 : ClS q D n bd s.on s.fuse s.steps (diskV d.n (dv k).fl (dv k).nw A3 n3 c3) w6.drew := ⟨by have := HC6.out.pl; rw [← HN.out] at this; exact this, HB6.out⟩
      have hD6 : DiskAt w6.drew C k d (dv k) K := HDK.out.keep (fun b hb => HT6.out.drew.block b (HLT0.out b hb) fun e => e) (fun _ _ => rfl) (Nat.le_refl _)
      obtain ⟨n1, hn1, hfl⟩ := hD6.fl
      obtain ⟨es1, ck1, he1, hm1⟩ := hfl.entries
      have HM1 := Lib.hid hm1
      have hw7 := Turn.alloc (Turn.refl nowhere w6.drew) (.map es1 ck1)
      have hD7 : DiskAt (w6.drew.alloc (.map es1 ck1)) C k d (dv k) K := hD6.keep (fun b hb => hw7.block b (by have := HLT0.out b hb; have := HT6.out.size; exact Nat.lt_of_lt_of_le (HLT0.out b hb) HT6.out.size) fun e => e) (fun _ _ => rfl) (Nat.le_refl _)
      have hx7 : (w6.drew.alloc (.map es1 ck1)).heap[w6.drew.heap.size]? = some (.map es1 ck1) := heap_alloc_new _ _
      have hS7 : ClS q D n bd s.on s.fuse s.steps (diskV d.n (dv k).fl (dv k).nw A3 n3 c3) (w6.drew.alloc (.map es1 ck1)) := ⟨hS0.1.alloc _, hS0.2.alloc _⟩
      obtain ⟨es2, ck2, he2, hm2⟩ := hD7.nw.entries
      have HM2 := Lib.hid hm2
      have HN1 := Lib.hid hn1
      obtain ⟨f1, hf1⟩ : ∃ f1, f1 = w6.drew.heap.size := ⟨_, rfl⟩
      rw [← hf1] at hx7
      generalize hW7 : (w6.drew.alloc (.map es1 ck1)) = w7 at *
      have hs7 : w7.heap.size = f1 + 1 := by rw [← hW7, hf1]; simp
      have hx8 : (w7.alloc (.map es2 ck2)).heap[w7.heap.size]? = some (.map es2 ck2) := heap_alloc_new _ _
      have hw8 := Turn.alloc (Turn.refl nowhere w7) (.map es2 ck2)
      have hD8 : DiskAt (w7.alloc (.map es2 ck2)) C k d (dv k) K := hD7.keep (fun b hb => hw8.block b (Nat.lt_of_lt_of_le (Nat.lt_of_lt_of_le (HLT0.out b hb) HT6.out.size) hw7.size) fun e => e) (fun _ _ => rfl) (Nat.le_refl _)
      have hS8 : ClS q D n bd s.on s.fuse s.steps (diskV d.n (dv k).fl (dv k).nw A3 n3 c3) (w7.alloc (.map es2 ck2)) := ⟨hS7.1.alloc _, hS7.2.alloc _⟩
      have hsc := sclone_walk (dv k).wv d.ws (w7.alloc (.map es2 ck2)) hD8.ws (by have := HN1.out; omega)
      rw [HWV.out] at hsc
      generalize hW8 : (w7.alloc (.map es2 ck2)) = w8 at *
      have hs8 : w8.heap.size = f1 + 2 := by rw [← hW8]; simp; omega
      have HE1 := Lib.hid (mclone_walk _ es1 ck1 w6.drew he1)
      have HE2 := Lib.hid (mclone_walk _ es2 ck2 w7 he2)
      have HSC := Lib.hid hsc
      have HX7 := Lib.hid hx7
      have HX8 := Lib.hid hx8
      have HW7 := Lib.hid hw7
      have HW8 := Lib.hid hw8
      have EW7 := Lib.hid hW7
      have EW8 := Lib.hid hW8
      have HS7 := Lib.hid hs7
      have HS8 := Lib.hid hs8
      have HF1 := Lib.hid hf1
      clear hfl he1 hm1 hw7 hx7 he2 hm2 hn1 hx8 hw8 hsc hD6 hD7 hD8 hW7 hW8 hs7 hs8 hf1
      refine wp_region_till (ClS q D n bd s.on s.fuse s.steps (diskV d.n (dv k).fl (dv k).nw A3 n3 c3)) 16 (by kernel_rfl) ?_
      refine till_pure (i := 0) (v := .pointer (some ⟨q, 0, none⟩)) rfl (by kernel_rfl) (by kernel_rfl) (fun _ _ _ h => h) (.inl ⟨by rfl, fun W hW => exec_field (off := 0) (d := 0) rfl rfl (by kernel_rfl)⟩) hS0 ?_
      simp only [Act.put, List.setIfInBounds_toArray, List.set_cons_zero, List.set_cons_succ]
      refine till_take (i := 1) (v := .slice (some ⟨D, 0, none⟩) n n) rfl (by kernel_rfl) (by kernel_rfl) (fun _ _ _ h => h) (.inl ⟨by rfl, fun W hW => exec_load1 rfl rfl (by kernel_rfl) (hW.1.cell 0)⟩) hS0 ?_
      simp only [Act.put, List.setIfInBounds_toArray, List.set_cons_zero, List.set_cons_succ]
      refine till_pure (i := 2) (v := .int .i64 (k : Int)) rfl (by kernel_rfl) (by kernel_rfl) (fun _ _ _ h => h) (.inl ⟨by rfl, fun W hW => exec_move rfl rfl⟩) hS0 ?_
      simp only [Act.put, List.setIfInBounds_toArray, List.set_cons_zero, List.set_cons_succ]
      refine till_pure (i := 3) (v := .pointer (some ⟨bd, 0, none⟩)) rfl (by kernel_rfl) (by kernel_rfl) (fun _ _ _ h => h) (.inl ⟨by rfl, fun W hW => exec_field (off := 0) (d := 0) rfl rfl (by kernel_rfl)⟩) hS0 ?_
      simp only [Act.put, List.setIfInBounds_toArray, List.set_cons_zero, List.set_cons_succ]
      refine till_take (i := 4) (v := .int .i64 d.n) rfl (by kernel_rfl) (by kernel_rfl) (fun _ _ _ h => h) (.inl ⟨by rfl, fun W hW => exec_load1 rfl rfl (by kernel_rfl) (hW.2.cell 0)⟩) hS0 ?_
      simp only [Act.put, List.setIfInBounds_toArray, List.set_cons_zero, List.set_cons_succ]
      refine till_pure (i := 5) (v := .pointer (some ⟨bd, 1, none⟩)) rfl (by kernel_rfl) (by kernel_rfl) (fun _ _ _ h => h) (.inl ⟨by rfl, fun W hW => exec_field (off := 0) (d := 1) rfl rfl (by kernel_rfl)⟩) hS0 ?_
      simp only [Act.put, List.setIfInBounds_toArray, List.set_cons_zero, List.set_cons_succ]
      refine till_take (i := 6) (v := .map (some (dv k).fl)) rfl (by kernel_rfl) (by kernel_rfl) (fun _ _ _ h => h) (.inl ⟨by rfl, fun W hW => exec_load1 rfl rfl (by kernel_rfl) (hW.2.cell 1)⟩) hS0 ?_
      simp only [Act.put, List.setIfInBounds_toArray, List.set_cons_zero, List.set_cons_succ]
      refine till_pure (i := 8) (v := .pointer (some ⟨bd, 2, none⟩)) rfl (by kernel_rfl) (by kernel_rfl) (fun _ _ _ h => h) (.inl ⟨by rfl, fun W hW => exec_field (off := 0) (d := 2) rfl rfl (by kernel_rfl)⟩) hS0 ?_
      simp only [Act.put, List.setIfInBounds_toArray, List.set_cons_zero, List.set_cons_succ]
      refine till_take (i := 9) (v := .map (some (dv k).nw)) rfl (by kernel_rfl) (by kernel_rfl) (fun _ _ _ h => h) (.inl ⟨by rfl, fun W hW => exec_load1 rfl rfl (by kernel_rfl) (hW.2.cell 2)⟩) hS0 ?_
      simp only [Act.put, List.setIfInBounds_toArray, List.set_cons_zero, List.set_cons_succ]
      refine till_pure (i := 11) (v := .pointer (some ⟨bd, 3, none⟩)) rfl (by kernel_rfl) (by kernel_rfl) (fun _ _ _ h => h) (.inl ⟨by rfl, fun W hW => exec_field (off := 0) (d := 3) rfl rfl (by kernel_rfl)⟩) hS0 ?_
      simp only [Act.put, List.setIfInBounds_toArray, List.set_cons_zero, List.set_cons_succ]
      refine till_take (i := 12) (v := .slice A3 n3 c3) rfl (by kernel_rfl) (by kernel_rfl) (fun _ _ _ h => h) (.inl ⟨by rfl, fun W hW => exec_load1 rfl rfl (by kernel_rfl) (hW.2.cell 3)⟩) hS0 ?_
      simp only [Act.put, List.setIfInBounds_toArray, List.set_cons_zero, List.set_cons_succ]
      refine till_step (i := 7) (by kernel_rfl) rfl rfl ?_
      intro K1 HK1
      go_wp2_with fail
      refine HE1.out.mono ?_
      rintro e w7' ⟨rfl, rfl⟩
      rw [EW7.out]
      refine HK1.out _ _ ⟨fun _ => hS7, ?_⟩
      clear HK1
      refine till_step (i := 10) (by kernel_rfl) rfl rfl ?_
      intro K1 HK1
      go_wp2_with fail
      refine HE2.out.mono ?_
      rintro e w8' ⟨rfl, rfl⟩
      rw [EW8.out]
      refine HK1.out _ _ ⟨fun _ => hS8, ?_⟩
      clear HK1
      refine till_step (i := 13) (by kernel_rfl) rfl rfl ?_
      intro K1 HK1
      go_wp2_with fail
      refine HSC.out.mono ?_
      rintro e w9 ⟨v9, rfl, hws9, hfr9, ht9⟩
      have hS9 : ClS q D n bd s.on s.fuse s.steps (diskV d.n (dv k).fl (dv k).nw A3 n3 c3) w9 := ⟨hS8.1.turn ht9 fun e => e, hS8.2.turn ht9 fun e => e⟩
      obtain ⟨A9, n9, c9, rfl⟩ := hws9.form
      refine HK1.out _ _ ⟨fun _ => hS9, ?_⟩
      clear HK1
      refine till_only (i := 14) (by kernel_rfl) rfl rfl ?_
      refine wp_run (v := .agg (diskV d.n f1 (f1 + 1) A9 n9 c9)) (w' := w9) (by rw [← HF1.out, HS7.out]; exact gx_build4 rfl rfl rfl rfl rfl (build_disk4 _ _ _ _ _ _ _)) ?_
      refine ⟨fun _ => hS9, ?_⟩
      simp only [Act.put, List.setIfInBounds_toArray, List.set_cons_zero, List.set_cons_succ]
      refine till_only (i := 15) (by kernel_rfl) rfl rfl ?_
      refine wp_run (v := .pointer (some ⟨D, k * 4, none⟩)) (w' := w9) (gx_iaddr (off := 0) (n := n) (c := n) (i := k) (k := .i64) rfl rfl rfl Try.underlying53 size_disk hlt (by omega)) ?_
      refine ⟨fun _ => hS9, ?_⟩
      simp only [Act.put, List.setIfInBounds_toArray, List.set_cons_zero, List.set_cons_succ]
      refine till_tail 16 rfl (by kernel_rfl) ?_
      have ht69 : Turn nowhere w6 w9 := ((Turn.refl nowhere w6).drew.trans HW7.out fun _ _ e => e).trans (HW8.out.trans ht9 fun _ _ e => e) fun _ _ e => e
      have hC9 := HC6.out.still ht69
      refine wpList_store_mid rfl 59 _ _ rfl (g := D) (off := k * 4) (t := 59) (diskV d.n f1 (f1 + 1) A9 n9 c9) hC9.blk rfl rfl (by rw [hC9.size, ← HN.out]; show k * 4 + 4 ≤ n * 4; omega) (by rw [size_disk]; rfl) (by intro v hv; simp [diskV] at hv; rcases hv with rfl | rfl | rfl | rfl <;> rfl) ?_
      intro w10 C10 hb10 hs10 hc10 ht10
      simp only [Act.put]
      have hD9 : DiskAt w9 C10 k d ⟨f1, f1 + 1, .slice A9 n9 c9⟩ K := {
        c0 := by rw [hc10, if_pos ⟨by omega, by show k * 4 < k * 4 + 4; omega⟩, Nat.sub_self]; rfl
        c1 := by rw [hc10, if_pos ⟨by omega, by show k * 4 + 1 < k * 4 + 4; omega⟩, show k * 4 + 1 - k * 4 = 1 from by omega]; rfl
        c2 := by rw [hc10, if_pos ⟨by omega, by show k * 4 + 2 < k * 4 + 4; omega⟩, show k * 4 + 2 - k * 4 = 2 from by omega]; rfl
        c3 := by rw [hc10, if_pos ⟨by omega, by show k * 4 + 3 < k * 4 + 4; omega⟩, show k * 4 + 3 - k * 4 = 3 from by omega]; rfl
        ne := by show f1 ≠ f1 + 1; omega
        fl := ⟨n1, HN1.out, by
          have h := HM1.out w9 ((ht9.block _ (by rw [← HF1.out, HS8.out]; omega) fun e => e).trans ((HW8.out.block _ (by rw [← HF1.out, HS7.out]; omega) fun e => e).trans (by rw [← HF1.out]; exact HX7.out)))
          rw [← HF1.out] at h
          exact h⟩
        nw := by
          have h := HM2.out w9 ((ht9.block _ (by rw [HS7.out, HS8.out]; omega) fun e => e).trans HX8.out)
          rw [HS7.out] at h
          exact h
        ws := hws9
        wf := HDK.out.wf
        n0 := HDK.out.n0 }
      have hstep := hC9.step HKS.out HDD2.out (v := ⟨f1, f1 + 1, .slice A9 n9 c9⟩) f1 (C' := C10) (w' := w10) (fun b hb => by
          have h9 := ht9.size
          have h8 := HS8.out
          rcases hb with e | e | e
          · have e' : b = f1 := e; omega
          · have e' : b = f1 + 1 := e; omega
          · have := hfr9 b e
            have := (hws9.lt b e).2
            omega) (fun i hi b hb => by
          have := (HC6.out.fresh i hi b hb).2
          have := HF1.out
          rw [this]; assumption) (by have := HF1.out; have := HT6.out.size; rw [HF1.out]; exact this)
        (fun w'' C'' h1 h2 => hD9.keep h1 h2 (Nat.le_refl _)) hb10 hs10 (fun j hj => by
          rw [hc10, if_neg]
          intro hh
          exact hj ⟨hh.1, hh.2⟩) ht10 HQD.out (hD9.off hC9.blk (by decide))
      have HST := Lib.hid hstep
      have HT10 := Lib.hid ((HT6.out.trans ht69 fun _ _ e => e).trans ht10 (F := nowhere) fun k hk e => by have : k = D := e; have := HDD.out; omega)
      clear hstep hD9 hb10 hs10 hc10 ht10 hS0 hS7 hS8 hS9 hws9 hfr9 ht9 ht69 hC9
      refine wpList_nil ?_
      refine NoPanic.normal ?_
      go_wp2_with fail
      go_roundg (gk - 1)
      case measure => have := HKL.out; omega
      case rel => exact ⟨k + 1, C10, _, by have := HKL.out; omega, by go_num, HST.out, HT10.out⟩
    · have hke : k = n := by have := HKL.out; omega
      have y1 : ¬ (k : Int) < (n : Int) := by omega
      have hC := HC.out
      rw [hke, HN.out] at hC
      obtain ⟨F', hP', hF'⟩ := hC.done (by rw [HQ.out]; exact Nat.le_refl _) HDD.out (by rw [← HN.out]; exact n1) (by rw [← HN.out]; exact n4) HF.out.1 HF.out.2.1 HF.out.2.2.1 HF.out.2.2.2
      have HP' := Lib.hid hP'
      have HF' := Lib.hid hF'
      clear hC hP' hF' hlt hke
      go_wp2_with fail
      go_ret
      exact ⟨q, F', rfl, HP'.out, HT.out, HF'.out⟩
end Go.Proofs.Yteedjfgandgbkaa
