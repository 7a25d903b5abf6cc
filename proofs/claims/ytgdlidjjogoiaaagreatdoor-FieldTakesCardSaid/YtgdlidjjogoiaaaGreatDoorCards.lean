/-
  DERIVED. GIVEN WITH THE SEED: THE CARDS: each row of YtgdlidjjogoiaaaGreatDoorRows.lean that lists a variable, with what it lists TIED to the program's text (the seventh form; the later family's looks); each row that meets fmt, with fmt's text TOLD by the authors' own Lean function (tested against real Go, not proved from fmt's source: count such statements apart). THE CARD IS WHAT COUNTS. Prove the row's statement (the work); the ties are given (YtgdlidjjogoiaaaGreatDoorTie.lean); close each card by the builder's one call (the guide's Derived/Test/ToyasCard.lean, 'card_holds'). Laid BY PROGRAM, IN A SANDBOX (cutbox-door.mjs). By AI agents, Wed Nov 11 2026. No macro, syntax, notation, axiom, sorry.
-/
import Derived.Test.YtgdlidjjogoiaaaGreatDoorRows
import GoSem.ClaimSeven
namespace Go.Proofs.YtgdlidjjogoiaaaGreatDoor
namespace Rows

/-- THE TIED CARD OF 'groatlaw04.FieldPuts'. -/
def fieldPutsCard : Claim7 := { stood := { row := fieldPutsRow, standIns := [], harness := (true, "dd0d5b476e2ebbf624f2695ed745afe4e775e7dc4e4a0e503408aee1d91f89e3"), looks := true }, kinds := [], alts := [], laidByText := true, laidKinds := [.data, .data, .data, .data, .sentinel, .sentinel, .data, .pinned], laidTests := true, laidLooks := .later }
def FieldPutsCardSaid : Prop := Claim7.holds Tryz.pinned (.plain (OpenSpec.ofChange fieldPutsSpec)) fieldPutsCard

/-- THE TIED CARD OF 'groatlaw04.FieldTakes'. -/
def fieldTakesCard : Claim7 := { stood := { row := fieldTakesRow, standIns := [], harness := (true, "dd0d5b476e2ebbf624f2695ed745afe4e775e7dc4e4a0e503408aee1d91f89e3"), looks := true }, kinds := [], alts := [], laidByText := true, laidKinds := [.data, .data, .data, .data, .sentinel, .sentinel, .data, .pinned], laidTests := true, laidLooks := .later }
def FieldTakesCardSaid : Prop := Claim7.holds Tryz.pinned (.plain (OpenSpec.ofChange fieldTakesSpec)) fieldTakesCard

/-- THE SECOND FORM's CARD OF 'groatlaw04.FieldPuts'. -/
def fieldPutsUptoCard : Claim7 := { stood := { row := fieldPutsUptoRow, standIns := [], harness := (true, "dd0d5b476e2ebbf624f2695ed745afe4e775e7dc4e4a0e503408aee1d91f89e3"), looks := true }, kinds := [], alts := [], laidByText := true, laidKinds := [.data, .data, .data, .data, .sentinel, .sentinel, .data, .pinned], laidTests := true, laidLooks := .later }
def FieldPutsUptoCardSaid : Prop := Claim7.holds Tryz.pinned (.plain (OpenSpec.upto fieldPutsSpec)) fieldPutsUptoCard

/-- THE SECOND FORM's CARD OF 'groatlaw04.FieldTakes'. -/
def fieldTakesUptoCard : Claim7 := { stood := { row := fieldTakesUptoRow, standIns := [], harness := (true, "dd0d5b476e2ebbf624f2695ed745afe4e775e7dc4e4a0e503408aee1d91f89e3"), looks := true }, kinds := [], alts := [], laidByText := true, laidKinds := [.data, .data, .data, .data, .sentinel, .sentinel, .data, .pinned], laidTests := true, laidLooks := .later }
def FieldTakesUptoCardSaid : Prop := Claim7.holds Tryz.pinned (.plain (OpenSpec.upto fieldTakesSpec)) fieldTakesUptoCard
end Rows
end Go.Proofs.YtgdlidjjogoiaaaGreatDoor
