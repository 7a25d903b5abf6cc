/-
  DERIVED. GIVEN WITH THE SEED: THE CARDS: each row of YtbfeejkdlhdioaaDoorRows.lean that lists a variable, with what it lists TIED to the program's text (the seventh form; the later family's looks); each row that meets fmt, with fmt's text TOLD by the authors' own Lean function (tested against real Go, not proved from fmt's source: count such statements apart). THE CARD IS WHAT COUNTS. Prove the row's statement (the work); the ties are given (YtbfeejkdlhdioaaDoorTie.lean); close each card by the builder's one call (the guide's Derived/Test/ToyasCard.lean, 'card_holds'). Laid BY PROGRAM, IN A SANDBOX (cutbox-door.mjs). By AI agents, Wed Nov 11 2026. No macro, syntax, notation, axiom, sorry.
-/
import Derived.Test.YtbfeejkdlhdioaaDoorRows
import GoSem.ClaimSeven
namespace Go.Proofs.YtbfeejkdlhdioaaDoor
namespace Rows

/-- THE TIED CARD OF 'groatlaw07.WalPlays'. -/
def walPlaysCard : Claim7 := { stood := { row := walPlaysRow, standIns := [], harness := (true, "10b2aa3a8d9a3a250d6702ccb86247b4025754ac387018d79b42ebc4f0c48a1c"), looks := false }, kinds := [], alts := [], laidByText := true, laidKinds := [.data], laidTests := true, laidLooks := .later }
def WalPlaysCardSaid : Prop := Claim7.holds Tryd.pinned (.plain (OpenSpec.ofChange walPlaysSpec)) walPlaysCard

/-- THE TIED CARD OF 'groatlaw07.WalCrashes'. -/
def walCrashesCard : Claim7 := { stood := { row := walCrashesRow, standIns := [], harness := (true, "10b2aa3a8d9a3a250d6702ccb86247b4025754ac387018d79b42ebc4f0c48a1c"), looks := false }, kinds := [], alts := [], laidByText := true, laidKinds := [.data], laidTests := true, laidLooks := .later }
def WalCrashesCardSaid : Prop := Claim7.holds Tryd.pinned (.plain (OpenSpec.ofChange walCrashesSpec)) walCrashesCard

/-- THE TIED CARD OF 'groatlaw07.WalArgs'. -/
def walArgsCard : Claim7 := { stood := { row := walArgsRow, standIns := [], harness := (true, "10b2aa3a8d9a3a250d6702ccb86247b4025754ac387018d79b42ebc4f0c48a1c"), looks := false }, kinds := [], alts := [], laidByText := true, laidKinds := [.data], laidTests := true, laidLooks := .later }
def WalArgsCardSaid : Prop := Claim7.holds Tryd.pinned (.plain (OpenSpec.ofChange walArgsSpec)) walArgsCard

/-- THE TIED CARD OF 'groatlaw07.WalRound'. -/
def walRoundCard : Claim7 := { stood := { row := walRoundRow, standIns := [], harness := (true, "10b2aa3a8d9a3a250d6702ccb86247b4025754ac387018d79b42ebc4f0c48a1c"), looks := false }, kinds := [], alts := [], laidByText := true, laidKinds := [.data], laidTests := true, laidLooks := .later }
def WalRoundCardSaid : Prop := Claim7.holds Tryd.pinned (.plain (OpenSpec.ofChange walRoundSpec)) walRoundCard

/-- THE TIED CARD OF 'groatlaw07.WalForged'. -/
def walForgedCard : Claim7 := { stood := { row := walForgedRow, standIns := [], harness := (true, "10b2aa3a8d9a3a250d6702ccb86247b4025754ac387018d79b42ebc4f0c48a1c"), looks := false }, kinds := [], alts := [], laidByText := true, laidKinds := [.data], laidTests := true, laidLooks := .later }
def WalForgedCardSaid : Prop := Claim7.holds Tryd.pinned (.plain (OpenSpec.ofChange walForgedSpec)) walForgedCard

/-- THE TIED CARD OF 'groatlaw07.WalTwice'. -/
def walTwiceCard : Claim7 := { stood := { row := walTwiceRow, standIns := [], harness := (true, "10b2aa3a8d9a3a250d6702ccb86247b4025754ac387018d79b42ebc4f0c48a1c"), looks := false }, kinds := [], alts := [], laidByText := true, laidKinds := [.data], laidTests := true, laidLooks := .later }
def WalTwiceCardSaid : Prop := Claim7.holds Tryd.pinned (.plain (OpenSpec.ofChange walTwiceSpec)) walTwiceCard

/-- THE SECOND FORM's CARD OF 'groatlaw07.WalPlays'. -/
def walPlaysUptoCard : Claim7 := { stood := { row := walPlaysUptoRow, standIns := [], harness := (true, "10b2aa3a8d9a3a250d6702ccb86247b4025754ac387018d79b42ebc4f0c48a1c"), looks := false }, kinds := [], alts := [], laidByText := true, laidKinds := [.data], laidTests := true, laidLooks := .later }
def WalPlaysUptoCardSaid : Prop := Claim7.holds Tryd.pinned (.plain (OpenSpec.upto walPlaysSpec)) walPlaysUptoCard

/-- THE SECOND FORM's CARD OF 'groatlaw07.WalCrashes'. -/
def walCrashesUptoCard : Claim7 := { stood := { row := walCrashesUptoRow, standIns := [], harness := (true, "10b2aa3a8d9a3a250d6702ccb86247b4025754ac387018d79b42ebc4f0c48a1c"), looks := false }, kinds := [], alts := [], laidByText := true, laidKinds := [.data], laidTests := true, laidLooks := .later }
def WalCrashesUptoCardSaid : Prop := Claim7.holds Tryd.pinned (.plain (OpenSpec.upto walCrashesSpec)) walCrashesUptoCard

/-- THE SECOND FORM's CARD OF 'groatlaw07.WalArgs'. -/
def walArgsUptoCard : Claim7 := { stood := { row := walArgsUptoRow, standIns := [], harness := (true, "10b2aa3a8d9a3a250d6702ccb86247b4025754ac387018d79b42ebc4f0c48a1c"), looks := false }, kinds := [], alts := [], laidByText := true, laidKinds := [.data], laidTests := true, laidLooks := .later }
def WalArgsUptoCardSaid : Prop := Claim7.holds Tryd.pinned (.plain (OpenSpec.upto walArgsSpec)) walArgsUptoCard

/-- THE SECOND FORM's CARD OF 'groatlaw07.WalRound'. -/
def walRoundUptoCard : Claim7 := { stood := { row := walRoundUptoRow, standIns := [], harness := (true, "10b2aa3a8d9a3a250d6702ccb86247b4025754ac387018d79b42ebc4f0c48a1c"), looks := false }, kinds := [], alts := [], laidByText := true, laidKinds := [.data], laidTests := true, laidLooks := .later }
def WalRoundUptoCardSaid : Prop := Claim7.holds Tryd.pinned (.plain (OpenSpec.upto walRoundSpec)) walRoundUptoCard

/-- THE SECOND FORM's CARD OF 'groatlaw07.WalForged'. -/
def walForgedUptoCard : Claim7 := { stood := { row := walForgedUptoRow, standIns := [], harness := (true, "10b2aa3a8d9a3a250d6702ccb86247b4025754ac387018d79b42ebc4f0c48a1c"), looks := false }, kinds := [], alts := [], laidByText := true, laidKinds := [.data], laidTests := true, laidLooks := .later }
def WalForgedUptoCardSaid : Prop := Claim7.holds Tryd.pinned (.plain (OpenSpec.upto walForgedSpec)) walForgedUptoCard

/-- THE SECOND FORM's CARD OF 'groatlaw07.WalTwice'. -/
def walTwiceUptoCard : Claim7 := { stood := { row := walTwiceUptoRow, standIns := [], harness := (true, "10b2aa3a8d9a3a250d6702ccb86247b4025754ac387018d79b42ebc4f0c48a1c"), looks := false }, kinds := [], alts := [], laidByText := true, laidKinds := [.data], laidTests := true, laidLooks := .later }
def WalTwiceUptoCardSaid : Prop := Claim7.holds Tryd.pinned (.plain (OpenSpec.upto walTwiceSpec)) walTwiceUptoCard
end Rows
end Go.Proofs.YtbfeejkdlhdioaaDoor
