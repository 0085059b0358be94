/-
  DERIVED. GIVEN WITH THE SEED: THE CARDS: each row of YtpibnfpgokjnpaaDoorRows.lean that lists a variable, with what it lists TIED to the program's text (the seventh form; the later family's looks); each row that meets fmt, with fmt's text TOLD by the authors' own Lean function (tested against real Go, not proved from fmt's source: count such statements apart). THE CARD IS WHAT COUNTS. Prove the row's statement (the work); the ties are given (YtpibnfpgokjnpaaDoorTie.lean); close each card by the builder's one call (the guide's Derived/Test/ToyasCard.lean, 'card_holds'). Laid BY PROGRAM, IN A SANDBOX (cutbox-door.mjs). By AI agents, Wed Nov 11 2026. No macro, syntax, notation, axiom, sorry.
-/
import Derived.Test.YtpibnfpgokjnpaaDoorRows
import GoSem.ClaimSeven
namespace Go.Proofs.YtpibnfpgokjnpaaDoor
namespace Rows

/-- THE TIED CARD OF 'sigillaw06.SpongeSays'. -/
def spongeSaysCard : Claim7 := { stood := { row := spongeSaysRow, standIns := [], harness := (true, "58d374d53d7908c7c0c6edea320d5011c586f2a351a0d1cd06a70b23d2c5a009"), looks := false }, kinds := [], alts := [], laidByText := true, laidKinds := [.data], laidTests := true, laidLooks := .later }
def SpongeSaysCardSaid : Prop := Claim7.holds Tryd.pinned (.plain (OpenSpec.ofChange spongeSaysSpec)) spongeSaysCard

/-- THE TIED CARD OF 'sigillaw06.SpongePieces'. -/
def spongePiecesCard : Claim7 := { stood := { row := spongePiecesRow, standIns := [], harness := (true, "58d374d53d7908c7c0c6edea320d5011c586f2a351a0d1cd06a70b23d2c5a009"), looks := false }, kinds := [], alts := [], laidByText := true, laidKinds := [.data], laidTests := true, laidLooks := .later }
def SpongePiecesCardSaid : Prop := Claim7.holds Tryd.pinned (.plain (OpenSpec.ofChange spongePiecesSpec)) spongePiecesCard

/-- THE TIED CARD OF 'sigillaw06.SpongeOne'. -/
def spongeOneCard : Claim7 := { stood := { row := spongeOneRow, standIns := [], harness := (true, "58d374d53d7908c7c0c6edea320d5011c586f2a351a0d1cd06a70b23d2c5a009"), looks := false }, kinds := [], alts := [], laidByText := true, laidKinds := [.data], laidTests := true, laidLooks := .later }
def SpongeOneCardSaid : Prop := Claim7.holds Tryd.pinned (.plain (OpenSpec.ofChange spongeOneSpec)) spongeOneCard

/-- THE SECOND FORM's CARD OF 'sigillaw06.SpongeSays'. -/
def spongeSaysUptoCard : Claim7 := { stood := { row := spongeSaysUptoRow, standIns := [], harness := (true, "58d374d53d7908c7c0c6edea320d5011c586f2a351a0d1cd06a70b23d2c5a009"), looks := false }, kinds := [], alts := [], laidByText := true, laidKinds := [.data], laidTests := true, laidLooks := .later }
def SpongeSaysUptoCardSaid : Prop := Claim7.holds Tryd.pinned (.plain (OpenSpec.upto spongeSaysSpec)) spongeSaysUptoCard

/-- THE SECOND FORM's CARD OF 'sigillaw06.SpongePieces'. -/
def spongePiecesUptoCard : Claim7 := { stood := { row := spongePiecesUptoRow, standIns := [], harness := (true, "58d374d53d7908c7c0c6edea320d5011c586f2a351a0d1cd06a70b23d2c5a009"), looks := false }, kinds := [], alts := [], laidByText := true, laidKinds := [.data], laidTests := true, laidLooks := .later }
def SpongePiecesUptoCardSaid : Prop := Claim7.holds Tryd.pinned (.plain (OpenSpec.upto spongePiecesSpec)) spongePiecesUptoCard

/-- THE SECOND FORM's CARD OF 'sigillaw06.SpongeOne'. -/
def spongeOneUptoCard : Claim7 := { stood := { row := spongeOneUptoRow, standIns := [], harness := (true, "58d374d53d7908c7c0c6edea320d5011c586f2a351a0d1cd06a70b23d2c5a009"), looks := false }, kinds := [], alts := [], laidByText := true, laidKinds := [.data], laidTests := true, laidLooks := .later }
def SpongeOneUptoCardSaid : Prop := Claim7.holds Tryd.pinned (.plain (OpenSpec.upto spongeOneSpec)) spongeOneUptoCard
end Rows
end Go.Proofs.YtpibnfpgokjnpaaDoor
