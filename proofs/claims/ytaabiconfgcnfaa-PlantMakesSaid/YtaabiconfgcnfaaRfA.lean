/-
  The reference plant's has and Len. No conditions.
-/
import Derived.Test.YtaabiconfgcnfaaPlSt
namespace Go.Proofs.Ytaabiconfgcnfaa
open Go.RowKit Go.Maps
set_option linter.unusedVariables false
def refCells (mv hv wv : Value) (off burns : Bool) (left done : Int) : Array Value := #[mv, hv, wv, .bool off, .bool burns, .int .i64 left, .int .i64 done]
section
variable {w : World} {p : Nat} {hv wv : Value} {off burns : Bool} {left done : Int} {A : Option Addr} {cap : Nat} {zs : List Int} {n : Nat}
theorem rhas_good (hb : Blk w p 52 (refCells (.slice A n cap) hv wv off burns left done)) (i : Nat) (hi : i < n) :
    Calls Try.prog 33 #[.pointer (some ⟨p, 0, none⟩), .int .i64 (i : Int)] w fun e w' => e = .returned (.bool true) ∧ w = w' := by
  have c0 : w.cell? ⟨p, 0, none⟩ = some (.slice A n cap) := hb.cell 0
  have z1 : (0 : Int) ≤ (i : Int) := by omega
  have z2 : (i : Int) < (n : Int) := by omega
  clear hb hi
  go_enter Try.func33, Try.ntmps33
  go_wp2
  go_ret
  exact ⟨rfl, rfl⟩
theorem rhas_bad (hb : Blk w p 52 (refCells (.slice A n cap) hv wv off burns left done)) (dev : Int) (hd : ¬ (0 ≤ dev ∧ dev < (n : Int))) :
    Calls Try.prog 33 #[.pointer (some ⟨p, 0, none⟩), .int .i64 dev] w fun e w' => e = .returned (.bool false) ∧ w = w' := by
  have c0 : w.cell? ⟨p, 0, none⟩ = some (.slice A n cap) := hb.cell 0
  clear hb
  by_cases h0 : 0 ≤ dev
  · have h1 : ¬ dev < (n : Int) := fun h => hd ⟨h0, h⟩
    clear hd
    go_enter Try.func33, Try.ntmps33
    go_wp2
    go_ret
    exact ⟨rfl, rfl⟩
  · clear hd
    go_enter Try.func33, Try.ntmps33
    go_wp2
    go_ret
    exact ⟨rfl, rfl⟩
theorem rlen_bad (hb : Blk w p 52 (refCells (.slice A n cap) hv wv off burns left done)) (dev : Int) (hd : ¬ (0 ≤ dev ∧ dev < (n : Int))) :
    Calls Try.prog 14 #[.pointer (some ⟨p, 0, none⟩), .int .i64 dev] w fun e w' => e = .returned (.tuple #[.int .i64 0, .int .i64 31]) ∧ w = w' := by
  have HH := Lib.hid (rhas_bad hb dev hd)
  clear hb hd
  go_enter Try.func14, Try.ntmps14
  go_wp2_with (go_at_call 33; refine HH.out.mono ?_; rintro e w' ⟨rfl, rfl⟩)
  go_ret2
  exact ⟨rfl, rfl⟩
theorem rlen_good (hb : Blk w p 52 (refCells (.slice A n cap) hv wv off burns left done)) (hz : Ks w nowhere A n zs) (i : Nat) (hi : i < n) :
    Calls Try.prog 14 #[.pointer (some ⟨p, 0, none⟩), .int .i64 (i : Int)] w fun e w' => e = .returned (.tuple #[.int .i64 (zs.getD i 0), .int .i64 0]) ∧ w = w' := by
  have HH := Lib.hid (rhas_good hb i hi)
  obtain ⟨_, _, hc⟩ := hz
  obtain ⟨g, o, rfl, _, _, hcell⟩ := hc (by omega)
  have c0 : w.cell? ⟨p, 0, none⟩ = some (.slice (some ⟨g, o, none⟩) n cap) := hb.cell 0
  have c1 := hcell i hi
  have z1 : (0 : Int) ≤ (i : Int) := by omega
  have z2 : (i : Int) < (n : Int) := by omega
  clear hb hi hcell hc
  go_enter Try.func14, Try.ntmps14
  go_wp2_with (go_at_call 33; refine HH.out.mono ?_; rintro e w' ⟨rfl, rfl⟩)
  go_ret2
  exact ⟨rfl, rfl⟩
end
end Go.Proofs.Ytaabiconfgcnfaa
