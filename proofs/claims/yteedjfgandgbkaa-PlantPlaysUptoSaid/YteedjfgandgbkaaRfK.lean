/-
  The reference plant's Write where it is refused, walked. No conditions.
-/
import Derived.Test.YteedjfgandgbkaaRfJ
namespace Go.Proofs.Yteedjfgandgbkaa
open Go.RowKit Go.Maps
set_option linter.unusedVariables false
set_option linter.unusedSimpArgs false
set_option maxRecDepth 20000
theorem rwrite_off {w : World} {q : Nat} {mv hv wv : Value} {burns : Bool} {left done dev place : Int} {B : Option Addr} {n c : Nat} (hb : Blk w q 49 (refCells mv hv wv true burns left done)) :
    Calls Try.prog 12 #[.pointer (some ⟨q, 0, none⟩), .int .i64 dev, .int .i64 place, .slice B n c] w fun e w' => e = .returned (.int .i64 2) ∧ w' = w := by
  have c3 : w.cell? ⟨q, 3, none⟩ = some (.bool true) := hb.cell 3
  clear hb
  go_enter Try.func12, Try.ntmps12
  go_wp2
  go_ret
  exact ⟨rfl, rfl⟩
theorem rwrite_dev {w : World} {q n cap : Nat} {A : Option Addr} {hv wv : Value} {burns : Bool} {left done dev place : Int} {B : Option Addr} {m c : Nat} (hb : Blk w q 49 (refCells (.slice A n cap) hv wv false burns left done)) (hd : ¬ (0 ≤ dev ∧ dev < (n : Int))) :
    Calls Try.prog 12 #[.pointer (some ⟨q, 0, none⟩), .int .i64 dev, .int .i64 place, .slice B m c] w fun e w' => e = .returned (.int .i64 31) ∧ w' = w := by
  have HH := Lib.hid (rhas_bad hb dev hd)
  have c3 : w.cell? ⟨q, 3, none⟩ = some (.bool false) := hb.cell 3
  clear hb hd
  go_enter Try.func12, Try.ntmps12
  go_wp2_with (go_at_call 29; refine HH.out.mono ?_; rintro e w' ⟨rfl, rfl⟩)
  go_ret
  exact ⟨rfl, rfl⟩
theorem rwrite_low {w : World} {q n cap i : Nat} {A : Option Addr} {hv wv : Value} {burns : Bool} {left done place : Int} {B : Option Addr} {m c : Nat} (hb : Blk w q 49 (refCells (.slice A n cap) hv wv false burns left done)) (hi : i < n) (hp : place < 0) :
    Calls Try.prog 12 #[.pointer (some ⟨q, 0, none⟩), .int .i64 (i : Int), .int .i64 place, .slice B m c] w fun e w' => e = .returned (.int .i64 31) ∧ w' = w := by
  have HH := Lib.hid (rhas_good hb i hi)
  have c3 : w.cell? ⟨q, 3, none⟩ = some (.bool false) := hb.cell 3
  clear hb hi
  go_enter Try.func12, Try.ntmps12
  go_wp2_with (go_at_call 29; refine HH.out.mono ?_; rintro e w' ⟨rfl, rfl⟩)
  go_ret
  exact ⟨rfl, rfl⟩
theorem rwrite_high {w : World} {q n cap i : Nat} {A : Option Addr} {zs : List Int} {hv wv : Value} {burns : Bool} {left done place : Int} {B : Option Addr} {m c : Nat} (hb : Blk w q 49 (refCells (.slice A n cap) hv wv false burns left done)) (hz : Ks w nowhere A n zs) (hi : i < n) (hp : 0 ≤ place) (hp2 : zs.getD i 0 ≤ place) :
    Calls Try.prog 12 #[.pointer (some ⟨q, 0, none⟩), .int .i64 (i : Int), .int .i64 place, .slice B m c] w fun e w' => e = .returned (.int .i64 31) ∧ w' = w := by
  have HH := Lib.hid (rhas_good hb i hi)
  have c3 : w.cell? ⟨q, 3, none⟩ = some (.bool false) := hb.cell 3
  obtain ⟨_, _, hcz⟩ := hz
  obtain ⟨gz, oz, rfl, hgz, _, hcell⟩ := hcz (by omega)
  have c0 : w.cell? ⟨q, 0, none⟩ = some (.slice (some ⟨gz, oz, none⟩) n cap) := hb.cell 0
  have cz := hcell i hi
  generalize zs.getD i 0 = z at *
  have y1 : (0 : Int) ≤ (i : Int) := by omega
  have y2 : (i : Int) < (n : Int) := by omega
  clear hb hi hcz hcell
  go_enter Try.func12, Try.ntmps12
  go_wp2_with (go_at_call 29; refine HH.out.mono ?_; rintro e w' ⟨rfl, rfl⟩)
  go_ret
  exact ⟨rfl, rfl⟩
/-- bytes of another length -/
theorem rwrite_len {w : World} {q n cap i : Nat} {A : Option Addr} {zs : List Int} {hv wv : Value} {burns : Bool} {left done place : Int} {B : Option Addr} {m c : Nat} (hb : Blk w q 49 (refCells (.slice A n cap) hv wv false burns left done)) (hz : Ks w nowhere A n zs) (hi : i < n) (hp : 0 ≤ place) (hp2 : place < zs.getD i 0) (hm : m ≠ 64) :
    Calls Try.prog 12 #[.pointer (some ⟨q, 0, none⟩), .int .i64 (i : Int), .int .i64 place, .slice B m c] w fun e w' => e = .returned (.int .i64 32) ∧ w' = w := by
  have HH := Lib.hid (rhas_good hb i hi)
  have c3 : w.cell? ⟨q, 3, none⟩ = some (.bool false) := hb.cell 3
  obtain ⟨_, _, hcz⟩ := hz
  obtain ⟨gz, oz, rfl, hgz, _, hcell⟩ := hcz (by omega)
  have c0 : w.cell? ⟨q, 0, none⟩ = some (.slice (some ⟨gz, oz, none⟩) n cap) := hb.cell 0
  have cz := hcell i hi
  generalize zs.getD i 0 = z at *
  have y1 : (0 : Int) ≤ (i : Int) := by omega
  have y2 : (i : Int) < (n : Int) := by omega
  have y3 : ¬ (z ≤ place) := by omega
  have y4 : ¬ ((m : Int) = 64) := by omega
  clear hb hi hcz hcell
  go_enter Try.func12, Try.ntmps12
  go_wp2_with (go_at_call 29; refine HH.out.mono ?_; rintro e w' ⟨rfl, rfl⟩)
  go_ret
  exact ⟨rfl, rfl⟩
/-- the power goes off at this step -/
theorem rwrite_end {w : World} {q n cap i : Nat} {A : Option Addr} {zs : List Int} {hv wv : Value} {done place : Int} {B : Option Addr} {c : Nat} (hb : Blk w q 49 (refCells (.slice A n cap) hv wv false true 0 done)) (hz : Ks w nowhere A n zs) (hi : i < n) (hp : 0 ≤ place) (hp2 : place < zs.getD i 0) :
    Calls Try.prog 12 #[.pointer (some ⟨q, 0, none⟩), .int .i64 (i : Int), .int .i64 place, .slice B 64 c] w fun e w' => e = .returned (.int .i64 2) ∧ Blk w' q 49 (refCells (.slice A n cap) hv wv true false 0 done) ∧ Turn (only q) w w' := by
  have HH := Lib.hid (rhas_good hb i hi)
  have HST := Lib.hid (rstep_end hb)
  have c3 : w.cell? ⟨q, 3, none⟩ = some (.bool false) := hb.cell 3
  obtain ⟨_, _, hcz⟩ := hz
  obtain ⟨gz, oz, rfl, hgz, _, hcell⟩ := hcz (by omega)
  have c0 : w.cell? ⟨q, 0, none⟩ = some (.slice (some ⟨gz, oz, none⟩) n cap) := hb.cell 0
  have cz := hcell i hi
  generalize zs.getD i 0 = z at *
  have y1 : (0 : Int) ≤ (i : Int) := by omega
  have y2 : (i : Int) < (n : Int) := by omega
  have y3 : ¬ (z ≤ place) := by omega
  clear hb hi hcz hcell
  go_enter Try.func12, Try.ntmps12
  go_wp2_with (first
    | (go_at_call 29; refine HH.out.mono ?_; rintro e w' ⟨rfl, rfl⟩)
    | (go_at_call 30; refine HST.out.mono ?_; rintro e w2 ⟨rfl, hb2, ht2⟩))
  go_ret
  exact ⟨rfl, hb2, ht2⟩
end Go.Proofs.Yteedjfgandgbkaa
