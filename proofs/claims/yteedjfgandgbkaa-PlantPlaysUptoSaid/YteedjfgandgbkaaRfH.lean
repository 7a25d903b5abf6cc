/-
  The reference plant's Read where it may not be read, walked. No conditions.
-/
import Derived.Test.YteedjfgandgbkaaRfG
namespace Go.Proofs.Yteedjfgandgbkaa
open Go.RowKit Go.Maps
set_option linter.unusedVariables false
set_option linter.unusedSimpArgs false
set_option maxRecDepth 20000
theorem rread_off {w : World} {q : Nat} {mv hv wv : Value} {burns : Bool} {left done dev place : Int} (hb : Blk w q 49 (refCells mv hv wv true burns left done)) :
    Calls Try.prog 38 #[.pointer (some ⟨q, 0, none⟩), .int .i64 dev, .int .i64 place] w fun e w' => e = .returned (.tuple #[.slice none 0 0, .int .i64 2]) ∧ w' = w := by
  have c3 : w.cell? ⟨q, 3, none⟩ = some (.bool true) := hb.cell 3
  clear hb
  go_enter Try.func38, Try.ntmps38
  go_wp2
  go_ret2
  exact ⟨rfl, rfl⟩
theorem rread_dev {w : World} {q n cap : Nat} {A : Option Addr} {hv wv : Value} {burns : Bool} {left done dev place : Int} (hb : Blk w q 49 (refCells (.slice A n cap) hv wv false burns left done)) (hd : ¬ (0 ≤ dev ∧ dev < (n : Int))) :
    Calls Try.prog 38 #[.pointer (some ⟨q, 0, none⟩), .int .i64 dev, .int .i64 place] w fun e w' => e = .returned (.tuple #[.slice none 0 0, .int .i64 31]) ∧ w' = w := by
  have HH := Lib.hid (rhas_bad hb dev hd)
  have c3 : w.cell? ⟨q, 3, none⟩ = some (.bool false) := hb.cell 3
  clear hb hd
  go_enter Try.func38, Try.ntmps38
  go_wp2_with (go_at_call 29; refine HH.out.mono ?_; rintro e w' ⟨rfl, rfl⟩)
  go_ret2
  exact ⟨rfl, rfl⟩
theorem rread_low {w : World} {q n cap i : Nat} {A : Option Addr} {hv wv : Value} {burns : Bool} {left done place : Int} (hb : Blk w q 49 (refCells (.slice A n cap) hv wv false burns left done)) (hi : i < n) (hp : place < 0) :
    Calls Try.prog 38 #[.pointer (some ⟨q, 0, none⟩), .int .i64 (i : Int), .int .i64 place] w fun e w' => e = .returned (.tuple #[.slice none 0 0, .int .i64 31]) ∧ w' = w := by
  have HH := Lib.hid (rhas_good hb i hi)
  have c3 : w.cell? ⟨q, 3, none⟩ = some (.bool false) := hb.cell 3
  clear hb hi
  go_enter Try.func38, Try.ntmps38
  go_wp2_with (go_at_call 29; refine HH.out.mono ?_; rintro e w' ⟨rfl, rfl⟩)
  go_ret2
  exact ⟨rfl, rfl⟩
theorem rread_high {w : World} {q n cap i : Nat} {A : Option Addr} {zs : List Int} {hv wv : Value} {burns : Bool} {left done place : Int} (hb : Blk w q 49 (refCells (.slice A n cap) hv wv false burns left done)) (hz : Ks w nowhere A n zs) (hi : i < n) (hp : 0 ≤ place) (hp2 : zs.getD i 0 ≤ place) :
    Calls Try.prog 38 #[.pointer (some ⟨q, 0, none⟩), .int .i64 (i : Int), .int .i64 place] w fun e w' => e = .returned (.tuple #[.slice none 0 0, .int .i64 31]) ∧ w' = w := by
  have HH := Lib.hid (rhas_good hb i hi)
  have c3 : w.cell? ⟨q, 3, none⟩ = some (.bool false) := hb.cell 3
  obtain ⟨_, _, hcz⟩ := hz
  obtain ⟨gz, oz, rfl, hgz, _, hcell⟩ := hcz (by omega)
  have c0 : w.cell? ⟨q, 0, none⟩ = some (.slice (some ⟨gz, oz, none⟩) n cap) := hb.cell 0
  have cz := hcell i hi
  generalize zs.getD i 0 = z at *
  have y1 : (0 : Int) ≤ (i : Int) := by omega
  have y2 : (i : Int) < (n : Int) := by omega
  clear hb hi hcz hcell
  go_enter Try.func38, Try.ntmps38
  go_wp2_with (go_at_call 29; refine HH.out.mono ?_; rintro e w' ⟨rfl, rfl⟩)
  go_ret2
  exact ⟨rfl, rfl⟩
end Go.Proofs.Yteedjfgandgbkaa
