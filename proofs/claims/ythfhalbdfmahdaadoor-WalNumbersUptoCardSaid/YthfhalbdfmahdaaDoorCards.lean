/-
  DERIVED. GIVEN WITH THE SEED: THE CARDS: each row of YthfhalbdfmahdaaDoorRows.lean that lists a variable, with what it lists TIED to the program's text (the seventh form; the later family's looks); each row that meets fmt, with fmt's text TOLD by the authors' own Lean function (tested against real Go, not proved from fmt's source: count such statements apart). THE CARD IS WHAT COUNTS. Prove the row's statement (the work); the ties are given (YthfhalbdfmahdaaDoorTie.lean); close each card by the builder's one call (the guide's Derived/Test/ToyasCard.lean, 'card_holds'). Laid BY PROGRAM, IN A SANDBOX (cutbox-door.mjs). By AI agents, Wed Nov 11 2026. No macro, syntax, notation, axiom, sorry.
-/
import Derived.Test.YthfhalbdfmahdaaDoorRows
import GoSem.ClaimSeven
namespace Go.Proofs.YthfhalbdfmahdaaDoor
namespace Rows

/-- THE TIED CARD OF 'groatlaw07.WalPlays'. -/
def walPlaysCard : Claim7 := { stood := { row := walPlaysRow, standIns := [], harness := (true, "ebbd1ff17e8d1afe4572ebf13287ede542f7a039ea36fca2a628a295e9835d0f"), looks := false }, kinds := [], alts := [], laidByText := true, laidKinds := [.data], laidTests := true, laidLooks := .later }
def WalPlaysCardSaid : Prop := Claim7.holds Tryd.pinned (.plain (OpenSpec.ofChange walPlaysSpec)) walPlaysCard

/-- THE TIED CARD OF 'groatlaw07.WalCrashes'. -/
def walCrashesCard : Claim7 := { stood := { row := walCrashesRow, standIns := [], harness := (true, "ebbd1ff17e8d1afe4572ebf13287ede542f7a039ea36fca2a628a295e9835d0f"), looks := false }, kinds := [], alts := [], laidByText := true, laidKinds := [.data], laidTests := true, laidLooks := .later }
def WalCrashesCardSaid : Prop := Claim7.holds Tryd.pinned (.plain (OpenSpec.ofChange walCrashesSpec)) walCrashesCard

/-- THE TIED CARD OF 'groatlaw07.WalArgs'. -/
def walArgsCard : Claim7 := { stood := { row := walArgsRow, standIns := [], harness := (true, "ebbd1ff17e8d1afe4572ebf13287ede542f7a039ea36fca2a628a295e9835d0f"), looks := false }, kinds := [], alts := [], laidByText := true, laidKinds := [.data], laidTests := true, laidLooks := .later }
def WalArgsCardSaid : Prop := Claim7.holds Tryd.pinned (.plain (OpenSpec.ofChange walArgsSpec)) walArgsCard

/-- THE TIED CARD OF 'groatlaw07.WalRound'. -/
def walRoundCard : Claim7 := { stood := { row := walRoundRow, standIns := [], harness := (true, "ebbd1ff17e8d1afe4572ebf13287ede542f7a039ea36fca2a628a295e9835d0f"), looks := false }, kinds := [], alts := [], laidByText := true, laidKinds := [.data], laidTests := true, laidLooks := .later }
def WalRoundCardSaid : Prop := Claim7.holds Tryd.pinned (.plain (OpenSpec.ofChange walRoundSpec)) walRoundCard

/-- THE TIED CARD OF 'groatlaw07.WalForged'. -/
def walForgedCard : Claim7 := { stood := { row := walForgedRow, standIns := [], harness := (true, "ebbd1ff17e8d1afe4572ebf13287ede542f7a039ea36fca2a628a295e9835d0f"), looks := false }, kinds := [], alts := [], laidByText := true, laidKinds := [.data], laidTests := true, laidLooks := .later }
def WalForgedCardSaid : Prop := Claim7.holds Tryd.pinned (.plain (OpenSpec.ofChange walForgedSpec)) walForgedCard

/-- THE TIED CARD OF 'groatlaw07.WalTwice'. -/
def walTwiceCard : Claim7 := { stood := { row := walTwiceRow, standIns := [], harness := (true, "ebbd1ff17e8d1afe4572ebf13287ede542f7a039ea36fca2a628a295e9835d0f"), looks := false }, kinds := [], alts := [], laidByText := true, laidKinds := [.data], laidTests := true, laidLooks := .later }
def WalTwiceCardSaid : Prop := Claim7.holds Tryd.pinned (.plain (OpenSpec.ofChange walTwiceSpec)) walTwiceCard

/-- THE TIED CARD OF 'groatlaw07.WalNumbers'. -/
def walNumbersCard : Claim7 := { stood := { row := walNumbersRow, standIns := [], harness := (true, "ebbd1ff17e8d1afe4572ebf13287ede542f7a039ea36fca2a628a295e9835d0f"), looks := false }, kinds := [], alts := [], laidByText := true, laidKinds := [.data], laidTests := true, laidLooks := .later }
def WalNumbersCardSaid : Prop := Claim7.holds Tryd.pinned (.plain (OpenSpec.ofChange walNumbersSpec)) walNumbersCard

/-- THE SECOND FORM's CARD OF 'groatlaw07.WalPlays'. -/
def walPlaysUptoCard : Claim7 := { stood := { row := walPlaysUptoRow, standIns := [], harness := (true, "ebbd1ff17e8d1afe4572ebf13287ede542f7a039ea36fca2a628a295e9835d0f"), looks := false }, kinds := [], alts := [], laidByText := true, laidKinds := [.data], laidTests := true, laidLooks := .later }
def WalPlaysUptoCardSaid : Prop := Claim7.holds Tryd.pinned (.plain (OpenSpec.upto walPlaysSpec)) walPlaysUptoCard

/-- THE SECOND FORM's CARD OF 'groatlaw07.WalCrashes'. -/
def walCrashesUptoCard : Claim7 := { stood := { row := walCrashesUptoRow, standIns := [], harness := (true, "ebbd1ff17e8d1afe4572ebf13287ede542f7a039ea36fca2a628a295e9835d0f"), looks := false }, kinds := [], alts := [], laidByText := true, laidKinds := [.data], laidTests := true, laidLooks := .later }
def WalCrashesUptoCardSaid : Prop := Claim7.holds Tryd.pinned (.plain (OpenSpec.upto walCrashesSpec)) walCrashesUptoCard

/-- THE SECOND FORM's CARD OF 'groatlaw07.WalArgs'. -/
def walArgsUptoCard : Claim7 := { stood := { row := walArgsUptoRow, standIns := [], harness := (true, "ebbd1ff17e8d1afe4572ebf13287ede542f7a039ea36fca2a628a295e9835d0f"), looks := false }, kinds := [], alts := [], laidByText := true, laidKinds := [.data], laidTests := true, laidLooks := .later }
def WalArgsUptoCardSaid : Prop := Claim7.holds Tryd.pinned (.plain (OpenSpec.upto walArgsSpec)) walArgsUptoCard

/-- THE SECOND FORM's CARD OF 'groatlaw07.WalRound'. -/
def walRoundUptoCard : Claim7 := { stood := { row := walRoundUptoRow, standIns := [], harness := (true, "ebbd1ff17e8d1afe4572ebf13287ede542f7a039ea36fca2a628a295e9835d0f"), looks := false }, kinds := [], alts := [], laidByText := true, laidKinds := [.data], laidTests := true, laidLooks := .later }
def WalRoundUptoCardSaid : Prop := Claim7.holds Tryd.pinned (.plain (OpenSpec.upto walRoundSpec)) walRoundUptoCard

/-- THE SECOND FORM's CARD OF 'groatlaw07.WalForged'. -/
def walForgedUptoCard : Claim7 := { stood := { row := walForgedUptoRow, standIns := [], harness := (true, "ebbd1ff17e8d1afe4572ebf13287ede542f7a039ea36fca2a628a295e9835d0f"), looks := false }, kinds := [], alts := [], laidByText := true, laidKinds := [.data], laidTests := true, laidLooks := .later }
def WalForgedUptoCardSaid : Prop := Claim7.holds Tryd.pinned (.plain (OpenSpec.upto walForgedSpec)) walForgedUptoCard

/-- THE SECOND FORM's CARD OF 'groatlaw07.WalTwice'. -/
def walTwiceUptoCard : Claim7 := { stood := { row := walTwiceUptoRow, standIns := [], harness := (true, "ebbd1ff17e8d1afe4572ebf13287ede542f7a039ea36fca2a628a295e9835d0f"), looks := false }, kinds := [], alts := [], laidByText := true, laidKinds := [.data], laidTests := true, laidLooks := .later }
def WalTwiceUptoCardSaid : Prop := Claim7.holds Tryd.pinned (.plain (OpenSpec.upto walTwiceSpec)) walTwiceUptoCard

/-- THE SECOND FORM's CARD OF 'groatlaw07.WalNumbers'. -/
def walNumbersUptoCard : Claim7 := { stood := { row := walNumbersUptoRow, standIns := [], harness := (true, "ebbd1ff17e8d1afe4572ebf13287ede542f7a039ea36fca2a628a295e9835d0f"), looks := false }, kinds := [], alts := [], laidByText := true, laidKinds := [.data], laidTests := true, laidLooks := .later }
def WalNumbersUptoCardSaid : Prop := Claim7.holds Tryd.pinned (.plain (OpenSpec.upto walNumbersSpec)) walNumbersUptoCard
end Rows
end Go.Proofs.YthfhalbdfmahdaaDoor
