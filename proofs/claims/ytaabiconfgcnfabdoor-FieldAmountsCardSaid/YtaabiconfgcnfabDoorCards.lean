/-
  DERIVED. GIVEN WITH THE SEED: THE CARDS: each row of YtaabiconfgcnfabDoorRows.lean that lists a variable, with what it lists TIED to the program's text (the seventh form; the later family's looks); each row that meets fmt, with fmt's text TOLD by the authors' own Lean function (tested against real Go, not proved from fmt's source: count such statements apart). THE CARD IS WHAT COUNTS. Prove the row's statement (the work); the ties are given (YtaabiconfgcnfabDoorTie.lean); close each card by the builder's one call (the guide's Derived/Test/ToyasCard.lean, 'card_holds'). Laid BY PROGRAM, IN A SANDBOX (cutbox-door.mjs). By AI agents, Wed Nov 11 2026. No macro, syntax, notation, axiom, sorry.
-/
import Derived.Test.YtaabiconfgcnfabDoorRows
import GoSem.ClaimSeven
namespace Go.Proofs.YtaabiconfgcnfabDoor
namespace Rows

/-- THE TIED CARD OF 'groatlaw04.FieldSizes'. -/
def fieldSizesCard : Claim7 := { stood := { row := fieldSizesRow, standIns := [], harness := (true, "bd5c450091393d451289c52ab148a7785d6ec7daf5de469028513912345abbd0"), looks := true }, kinds := [], alts := [], laidByText := true, laidKinds := [.data, .data, .data, .data, .sentinel, .sentinel, .data, .pinned], laidTests := true, laidLooks := .later }
def FieldSizesCardSaid : Prop := Claim7.holds Tryd.pinned (.plain (OpenSpec.ofChange fieldSizesSpec)) fieldSizesCard

/-- THE TIED CARD OF 'groatlaw04.FieldUnlike'. -/
def fieldUnlikeCard : Claim7 := { stood := { row := fieldUnlikeRow, standIns := [], harness := (true, "bd5c450091393d451289c52ab148a7785d6ec7daf5de469028513912345abbd0"), looks := true }, kinds := [], alts := [], laidByText := true, laidKinds := [.data, .data, .data, .data, .sentinel, .sentinel, .data, .pinned], laidTests := true, laidLooks := .later }
def FieldUnlikeCardSaid : Prop := Claim7.holds Tryd.pinned (.plain (OpenSpec.ofChange fieldUnlikeSpec)) fieldUnlikeCard

/-- THE TIED CARD OF 'groatlaw04.FieldCodes'. -/
def fieldCodesCard : Claim7 := { stood := { row := fieldCodesRow, standIns := [], harness := (true, "bd5c450091393d451289c52ab148a7785d6ec7daf5de469028513912345abbd0"), looks := true }, kinds := [], alts := [], laidByText := true, laidKinds := [.data, .data, .data, .data, .sentinel, .sentinel, .data, .pinned], laidTests := true, laidLooks := .later }
def FieldCodesCardSaid : Prop := Claim7.holds Tryd.pinned (.plain (OpenSpec.ofChange fieldCodesSpec)) fieldCodesCard

/-- THE TIED CARD OF 'groatlaw04.FieldAmounts'. -/
def fieldAmountsCard : Claim7 := { stood := { row := fieldAmountsRow, standIns := [], harness := (true, "bd5c450091393d451289c52ab148a7785d6ec7daf5de469028513912345abbd0"), looks := true }, kinds := [], alts := [], laidByText := true, laidKinds := [.data, .data, .data, .data, .sentinel, .sentinel, .data, .pinned], laidTests := true, laidLooks := .later }
def FieldAmountsCardSaid : Prop := Claim7.holds Tryd.pinned (.plain (OpenSpec.ofChange fieldAmountsSpec)) fieldAmountsCard

/-- THE SECOND FORM's CARD OF 'groatlaw04.FieldSizes'. -/
def fieldSizesUptoCard : Claim7 := { stood := { row := fieldSizesUptoRow, standIns := [], harness := (true, "bd5c450091393d451289c52ab148a7785d6ec7daf5de469028513912345abbd0"), looks := true }, kinds := [], alts := [], laidByText := true, laidKinds := [.data, .data, .data, .data, .sentinel, .sentinel, .data, .pinned], laidTests := true, laidLooks := .later }
def FieldSizesUptoCardSaid : Prop := Claim7.holds Tryd.pinned (.plain (OpenSpec.upto fieldSizesSpec)) fieldSizesUptoCard

/-- THE SECOND FORM's CARD OF 'groatlaw04.FieldUnlike'. -/
def fieldUnlikeUptoCard : Claim7 := { stood := { row := fieldUnlikeUptoRow, standIns := [], harness := (true, "bd5c450091393d451289c52ab148a7785d6ec7daf5de469028513912345abbd0"), looks := true }, kinds := [], alts := [], laidByText := true, laidKinds := [.data, .data, .data, .data, .sentinel, .sentinel, .data, .pinned], laidTests := true, laidLooks := .later }
def FieldUnlikeUptoCardSaid : Prop := Claim7.holds Tryd.pinned (.plain (OpenSpec.upto fieldUnlikeSpec)) fieldUnlikeUptoCard

/-- THE SECOND FORM's CARD OF 'groatlaw04.FieldCodes'. -/
def fieldCodesUptoCard : Claim7 := { stood := { row := fieldCodesUptoRow, standIns := [], harness := (true, "bd5c450091393d451289c52ab148a7785d6ec7daf5de469028513912345abbd0"), looks := true }, kinds := [], alts := [], laidByText := true, laidKinds := [.data, .data, .data, .data, .sentinel, .sentinel, .data, .pinned], laidTests := true, laidLooks := .later }
def FieldCodesUptoCardSaid : Prop := Claim7.holds Tryd.pinned (.plain (OpenSpec.upto fieldCodesSpec)) fieldCodesUptoCard

/-- THE SECOND FORM's CARD OF 'groatlaw04.FieldAmounts'. -/
def fieldAmountsUptoCard : Claim7 := { stood := { row := fieldAmountsUptoRow, standIns := [], harness := (true, "bd5c450091393d451289c52ab148a7785d6ec7daf5de469028513912345abbd0"), looks := true }, kinds := [], alts := [], laidByText := true, laidKinds := [.data, .data, .data, .data, .sentinel, .sentinel, .data, .pinned], laidTests := true, laidLooks := .later }
def FieldAmountsUptoCardSaid : Prop := Claim7.holds Tryd.pinned (.plain (OpenSpec.upto fieldAmountsSpec)) fieldAmountsUptoCard
end Rows
end Go.Proofs.YtaabiconfgcnfabDoor
