/-
  DERIVED. GIVEN WITH THE SEED: THE CARDS: each row of YtjjbmnoamcfdgaaDoorRows.lean that lists a variable, with what it lists TIED to the program's text (the seventh form; the later family's looks); each row that meets fmt, with fmt's text TOLD by the authors' own Lean function (tested against real Go, not proved from fmt's source: count such statements apart). THE CARD IS WHAT COUNTS. Prove the row's statement (the work); the ties are given (YtjjbmnoamcfdgaaDoorTie.lean); close each card by the builder's one call (the guide's Derived/Test/ToyasCard.lean, 'card_holds'). Laid BY PROGRAM, IN A SANDBOX (cutbox-door.mjs). By AI agents, Wed Nov 11 2026. No macro, syntax, notation, axiom, sorry.
-/
import Derived.Test.YtjjbmnoamcfdgaaDoorRows
import GoSem.ClaimSeven
namespace Go.Proofs.YtjjbmnoamcfdgaaDoor
namespace Rows

/-- THE TIED CARD OF 'groatlaw14.LifeKeys'. -/
def lifeKeysCard : Claim7 := { stood := { row := lifeKeysRow, standIns := [], harness := (true, "3fb0ddf143847002237b121783363f404c9ee6cdce8680785c9fb2e02ab00887"), looks := false }, kinds := [], alts := [], laidByText := true, laidKinds := [.data], laidTests := true, laidLooks := .later }
def LifeKeysCardSaid : Prop := Claim7.holds Tryd.pinned (.plain (OpenSpec.ofChange lifeKeysSpec)) lifeKeysCard

/-- THE TIED CARD OF 'groatlaw14.LifeSame'. -/
def lifeSameCard : Claim7 := { stood := { row := lifeSameRow, standIns := [], harness := (true, "3fb0ddf143847002237b121783363f404c9ee6cdce8680785c9fb2e02ab00887"), looks := false }, kinds := [], alts := [], laidByText := true, laidKinds := [.data], laidTests := true, laidLooks := .later }
def LifeSameCardSaid : Prop := Claim7.holds Tryd.pinned (.plain (OpenSpec.ofChange lifeSameSpec)) lifeSameCard

/-- THE SECOND FORM's CARD OF 'groatlaw14.LifeKeys'. -/
def lifeKeysUptoCard : Claim7 := { stood := { row := lifeKeysUptoRow, standIns := [], harness := (true, "3fb0ddf143847002237b121783363f404c9ee6cdce8680785c9fb2e02ab00887"), looks := false }, kinds := [], alts := [], laidByText := true, laidKinds := [.data], laidTests := true, laidLooks := .later }
def LifeKeysUptoCardSaid : Prop := Claim7.holds Tryd.pinned (.plain (OpenSpec.upto lifeKeysSpec)) lifeKeysUptoCard

/-- THE SECOND FORM's CARD OF 'groatlaw14.LifeSame'. -/
def lifeSameUptoCard : Claim7 := { stood := { row := lifeSameUptoRow, standIns := [], harness := (true, "3fb0ddf143847002237b121783363f404c9ee6cdce8680785c9fb2e02ab00887"), looks := false }, kinds := [], alts := [], laidByText := true, laidKinds := [.data], laidTests := true, laidLooks := .later }
def LifeSameUptoCardSaid : Prop := Claim7.holds Tryd.pinned (.plain (OpenSpec.upto lifeSameSpec)) lifeSameUptoCard
end Rows
end Go.Proofs.YtjjbmnoamcfdgaaDoor
