/-
  DERIVED. GIVEN WITH THE SEED: THE CARDS: each row of YtfnillibngijaaaGreatDoorRows.lean that lists a variable, with what it lists TIED to the program's text (the seventh form; the later family's looks); each row that meets fmt, with fmt's text TOLD by the authors' own Lean function (tested against real Go, not proved from fmt's source: count such statements apart). THE CARD IS WHAT COUNTS. Prove the row's statement (the work); the ties are given (YtfnillibngijaaaGreatDoorTie.lean); close each card by the builder's one call (the guide's Derived/Test/ToyasCard.lean, 'card_holds'). Laid BY PROGRAM, IN A SANDBOX (cutbox-door.mjs). By AI agents, Wed Nov 11 2026. No macro, syntax, notation, axiom, sorry.
-/
import Derived.Test.YtfnillibngijaaaGreatDoorRows
import GoSem.ClaimSeven
namespace Go.Proofs.YtfnillibngijaaaGreatDoor
namespace Rows

/-- THE TIED CARD OF 'groatlaw13.SessionBoards'. -/
def sessionBoardsCard : Claim7 := { stood := { row := sessionBoardsRow, standIns := [], harness := (true, "473ff31544001b8dad84362f8e50d2d29b3cc9de875fcd64026b5d6e62795bf9"), looks := true }, kinds := [], alts := [], laidByText := true, laidKinds := [.data, .data, .data, .data, .data, .handle, .data, .data, .wider, .sentinel, .sentinel, .sentinel, .sentinel, .sentinel, .sentinel, .sentinel, .sentinel, .sentinel, .pinned], laidTests := true, laidLooks := .later }
def SessionBoardsCardSaid : Prop := Claim7.holds Tryz.pinned (.plain (OpenSpec.ofChange sessionBoardsSpec)) sessionBoardsCard

/-- THE SECOND FORM's CARD OF 'groatlaw13.SessionBoards'. -/
def sessionBoardsUptoCard : Claim7 := { stood := { row := sessionBoardsUptoRow, standIns := [], harness := (true, "473ff31544001b8dad84362f8e50d2d29b3cc9de875fcd64026b5d6e62795bf9"), looks := true }, kinds := [], alts := [], laidByText := true, laidKinds := [.data, .data, .data, .data, .data, .handle, .data, .data, .wider, .sentinel, .sentinel, .sentinel, .sentinel, .sentinel, .sentinel, .sentinel, .sentinel, .sentinel, .pinned], laidTests := true, laidLooks := .later }
def SessionBoardsUptoCardSaid : Prop := Claim7.holds Tryz.pinned (.plain (OpenSpec.upto sessionBoardsSpec)) sessionBoardsUptoCard
end Rows
end Go.Proofs.YtfnillibngijaaaGreatDoor
