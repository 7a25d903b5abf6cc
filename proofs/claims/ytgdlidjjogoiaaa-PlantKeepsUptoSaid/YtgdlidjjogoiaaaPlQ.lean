/-
  plant's Read, Write, Flush, from a plant in memory to one. Conditions: the bytes that are written read as bytes; no more than 2^40 writes.
-/
import Derived.Test.YtgdlidjjogoiaaaPlP
namespace Go.Proofs.Ytgdlidjjogoiaaa
open Go.RowKit Go.Maps
set_option linter.unusedVariables false
/-- what a disk tells -/
def AD.read (d : AD) (place : Int) : Sec := reads (lastW d.ws) d.fl place
section
variable {w : World} {p : Nat} {F : Nat → Prop} {s : AP} {K : Nat}
theorem refP_bad (h : PlantAt w p F s K) (dev place k : Int) (hk : refuseCode s.on s.ds.length dev = k) (h2 : k = 2 ∨ k = 31) :
    Calls Try.prog 29 #[.pointer (some ⟨p, 0, none⟩), .int .i64 dev, .int .i64 place] w fun e w' => e = .returned (.int .i64 k) ∧ w = w' := by
  obtain ⟨db, cap, C, dv, h1, hD, _⟩ := h
  exact refusePlace_bad p db _ cap _ _ _ dev place w h1 k hk h2
theorem refP_good (h : PlantAt w p F s K) (i : Nat) (d : AD) (hd : s.ds[i]? = some d) (hon : s.on = true) (place : Int) :
    Calls Try.prog 29 #[.pointer (some ⟨p, 0, none⟩), .int .i64 (i : Int), .int .i64 place] w fun e w' => e = .returned (.int .i64 (if 0 ≤ place ∧ place < d.n then 0 else 31)) ∧ w = w' := by
  obtain ⟨db, cap, C, dv, h1, hD, _, _, h4, _⟩ := h
  rw [hon] at h1
  exact refusePlace_good p db _ cap _ _ place w C d.n i h1 hD.blk (List.getElem?_eq_some_iff.1 hd).1 (hD.at_ i d hd).c0 h4
/-- why nothing can be read or written there -/
def badPlace (s : AP) (dev place k : Int) : Prop :=
  (refuseCode s.on s.ds.length dev = k ∧ (k = 2 ∨ k = 31)) ∨ (s.on = true ∧ k = 31 ∧ ∃ (i : Nat) (d : AD), dev = i ∧ s.ds[i]? = some d ∧ ¬ (0 ≤ place ∧ place < d.n))
theorem refP_any (h : PlantAt w p F s K) (dev place k : Int) (hk : badPlace s dev place k) :
    Calls Try.prog 29 #[.pointer (some ⟨p, 0, none⟩), .int .i64 dev, .int .i64 place] w fun e w' => e = .returned (.int .i64 k) ∧ w = w' := by
  rcases hk with ⟨h1, h2⟩ | ⟨hon, rfl, i, d, rfl, hd, hp⟩
  · exact refP_bad h dev place k h1 h2
  · refine (refP_good h i d hd hon place).mono fun e w' ⟨he, hw⟩ => ⟨?_, hw⟩
    rw [he, if_neg hp]
theorem bad_k {s : AP} {dev place k : Int} (hk : badPlace s dev place k) : k = 2 ∨ k = 31 := by
  rcases hk with ⟨_, h2⟩ | ⟨_, h2, _⟩
  · exact h2
  · exact .inr h2
theorem read_bad (h : PlantAt w p F s K) (dev place k : Int) (hk : badPlace s dev place k) :
    Calls Try.prog 18 #[.pointer (some ⟨p, 0, none⟩), .int .i64 dev, .int .i64 place] w fun e w' => e = .returned (.tuple #[.slice none 0 0, .int .i64 k]) ∧ w = w' := by
  have hq := refP_any h dev place k hk
  have hk2 := bad_k hk
  have Hq := Lib.hid hq
  clear hq hk
  rcases hk2 with rfl | rfl
  all_goals
    go_enter Try.func18, Try.ntmps18
    go_wp2_with (go_at_call 29; refine Hq.out.mono ?_; rintro e w' ⟨rfl, rfl⟩)
    go_ret2
    exact ⟨rfl, rfl⟩
theorem refP_ok (h : PlantAt w p F s K) (i : Nat) (d : AD) (hd : s.ds[i]? = some d) (hon : s.on = true) (place : Int) (hp : 0 ≤ place ∧ place < d.n) :
    Calls Try.prog 29 #[.pointer (some ⟨p, 0, none⟩), .int .i64 (i : Int), .int .i64 place] w fun e w' => e = .returned (.int .i64 0) ∧ w = w' := by
  refine (refP_good h i d hd hon place).mono fun e w' ⟨he, hw⟩ => ⟨?_, hw⟩
  rw [he, if_pos hp]
theorem place_wf {n place : Int} (h : 1 ≤ n ∧ n ≤ 65536) (hp : 0 ≤ place ∧ place < n) : (Lit.int .i64 place).wf = true := WalkArith.wf_i64 (by omega)
theorem read_ok (h : PlantAt w p F s K) (i : Nat) (d : AD) (hd : s.ds[i]? = some d) (hon : s.on = true) (place : Int) (hp : 0 ≤ place ∧ place < d.n) :
    Calls Try.prog 18 #[.pointer (some ⟨p, 0, none⟩), .int .i64 (i : Int), .int .i64 place] w fun e w' =>
      ∃ R, e = .returned (.tuple #[.slice (some ⟨R, 0, none⟩) 64 64, .int .i64 0]) ∧ w.heap.size ≤ R ∧ Blk w' R 66 (bcs (d.read place).1).toArray ∧ Turn nowhere w w' := by
  have hq := refP_ok h i d hd hon place hp
  obtain ⟨db, cap, C, dv, h1, hD, _, _, h4, _⟩ := id h
  have hi := (List.getElem?_eq_some_iff.1 hd).1
  have hA := hD.at_ i d hd
  obtain ⟨n1, _, hfl⟩ := hA.fl
  have hcall := read_walk db (i * 4) (dv i).nw (dv i).fl n1 d.ws.length (lastW d.ws) d.fl place C w hD.blk hA.c1 hA.c2 hfl hA.nw (place_wf hA.n0 hp)
  have hb := hD.blk
  have c0 : w.cell? ⟨p, 0, none⟩ = some (.slice (some ⟨db, 0, none⟩) s.ds.length cap) := h1.cell 0
  have z1 : (0 : Int) ≤ (i : Int) := by omega
  have z2 : (i : Int) < (s.ds.length : Int) := by omega
  have Hq := Lib.hid hq
  have Hc := Lib.hid hcall
  clear hq hcall hfl hA h hb h1 hD hd hon h4
  have hz := zero_sector
  generalize s.ds.length = n at *
  go_enter Try.func18, Try.ntmps18
  go_wp2_with (first
    | (go_at_call 29; refine Hq.out.mono ?_; rintro e w' ⟨rfl, rfl⟩)
    | (go_at_call 36; refine Hc.out.mono ?_; rintro e w1 ⟨rfl, ht1⟩)
    | (refine wpList_store_row rfl 66 (.tmp 9) (.tmp 24) rfl (bcs (d.read place).1).toArray (Blk.new w1 _ _) rfl rfl (sec_size _) (size_sec _) (sec_one _) ?_; intro w2 hb2 ht2))
  go_ret2
  exact ⟨w1.heap.size, rfl, ht1.size, hb2, (ht1.alloc _).trans ht2 (fun k hk e => by
    have e' : k = w1.heap.size := e
    have := ht1.size
    omega)⟩
theorem foldl_splice (vs : Array Value) (off : Nat) (cells : Array Value) : vs.zipIdx.foldl (fun cs (x : Value × Nat) => cs.setIfInBounds (off + x.2) x.1) cells = (vs.toList.zipIdx 0).foldl (fun cs (x : Value × Nat) => cs.setIfInBounds (off + x.2) x.1) cells := by
  have hz : vs.zipIdx = (vs.toList.zipIdx 0).toArray := by
    apply Array.ext'
    simp [Array.toList_zipIdx]
  rw [hz, List.foldl_toArray]
theorem fill_write (a b : Int) (s : Sec) : Instr.fill (fun i => ([(0, 1), (1, 1), (2, 64)] : List (Nat × Nat)).toArray[i]?) (wtCells (0, 0, zeroSec)).toArray [(0, .int .i64 a), (1, .int .i64 b), (2, rowV s.1)] = some (wtCells (a, b, s)).toArray := by
  have h1 : (wtCells (0, 0, zeroSec)).toArray.size = 66 := by simp [wtCells_length]
  have h2 : (bcs s.1).toArray.size = 64 := (sec_size s).symm
  have e : ∀ (f : Nat → Option (Nat × Nat)) (c : Array Value) (i o n : Nat) (v : Value) (r : List (Nat × Value)), f i = some (o, n) → v.cells.size = n → o + n ≤ c.size →
      Instr.fill f c ((i, v) :: r) = Instr.fill f ((v.cells.toList.zipIdx 0).foldl (fun cs (x : Value × Nat) => cs.setIfInBounds (o + x.2) x.1) c) r := by
    intro f c i o n v r hf hn ho
    rw [Instr.fill]
    simp only [hf]
    rw [if_neg (by simp [hn]; omega), foldl_splice]
  rw [e _ _ 0 0 1 _ _ rfl rfl (by omega), e _ _ 1 1 1 _ _ rfl rfl (by rw [(splice_at _ _ _ _).1]; omega), e _ _ 2 2 64 _ _ rfl (by simpa [rowV, Value.cells] using h2) (by rw [(splice_at _ _ _ _).1, (splice_at _ _ _ _).1]; omega), Instr.fill]
  congr 1
  apply Array.ext_getElem?
  intro j
  rw [(splice_at _ _ _ _).2, (splice_at _ _ _ _).1, (splice_at _ _ _ _).1, h1]
  have h3 : (rowV s.1).cells.toList = bcs s.1 := rfl
  have h4 : (bcs s.1).length = 64 := by rw [bcs_length, s.2]
  rw [h3, h4]
  by_cases hj : 2 ≤ j ∧ j < 66
  · rw [if_pos ⟨by omega, by omega, by omega⟩]
    obtain ⟨m, rfl⟩ : ∃ m, j = m + 2 := ⟨j - 2, by omega⟩
    simp [wtCells]
  · rw [if_neg (by omega), (splice_at _ _ _ _).2, (splice_at _ _ _ _).1, h1, (splice_at _ _ _ _).2, h1]
    have h5 : (Value.int IntKind.i64 b).cells.toList = [.int .i64 b] := rfl
    have h6 : (Value.int IntKind.i64 a).cells.toList = [.int .i64 a] := rfl
    rw [h5, h6]
    by_cases h0 : j = 0
    · subst h0
      simp [wtCells]
    · by_cases h1' : j = 1
      · subst h1'
        simp [wtCells]
      · rw [if_neg (by simp; omega), if_neg (by simp; omega), Array.getElem?_eq_none (by omega), Array.getElem?_eq_none (by simp [wtCells_length]; omega)]
theorem build_write (a b : Int) (s : Sec) (W : World) : (Instr.build 69 #[(0, .int .i64 a), (1, .int .i64 b), (2, rowV s.1)]).run Try.prog W = .ok (.agg (wtCells (a, b, s)).toArray) W := by
  refine run_build W _ _ _ ?_
  obtain ⟨i0, hi0, hz0, hz1, hz2⟩ := info_parts info_write
  have hp : (match Try.prog.underlying 69 with | some (.struct fs) => fs.toList.mapM (fun f => (Try.prog.info? f.type).map fun i => (f.offset, i.size)) | _ => none) = some [(0, 1), (1, 1), (2, 64)] := by kernel_rfl
  have hu := Try.underlying69
  rw [hu] at hp
  unfold Program.built
  simp only [hi0, hu, hz0]
  simp only at hp
  rw [hp]
  exact fill_write a b s
end
end Go.Proofs.Ytgdlidjjogoiaaa
