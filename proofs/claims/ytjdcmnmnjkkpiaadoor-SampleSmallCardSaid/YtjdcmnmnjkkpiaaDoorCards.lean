/-
  DERIVED. GIVEN WITH THE SEED: THE CARDS: each row of YtjdcmnmnjkkpiaaDoorRows.lean that lists a variable, with what it lists TIED to the program's text (the seventh form; the later family's looks); each row that meets fmt, with fmt's text TOLD by the authors' own Lean function (tested against real Go, not proved from fmt's source: count such statements apart). THE CARD IS WHAT COUNTS. Prove the row's statement (the work); the ties are given (YtjdcmnmnjkkpiaaDoorTie.lean); close each card by the builder's one call (the guide's Derived/Test/ToyasCard.lean, 'card_holds'). Laid BY PROGRAM, IN A SANDBOX (cutbox-door.mjs). By AI agents, Wed Nov 11 2026. No macro, syntax, notation, axiom, sorry.
-/
import Derived.Test.YtjdcmnmnjkkpiaaDoorRows
import GoSem.ClaimSeven
namespace Go.Proofs.YtjdcmnmnjkkpiaaDoor
namespace Rows

/-- THE TIED CARD OF 'sigillaw11.SampleSays'. -/
def sampleSaysCard : Claim7 := { stood := { row := sampleSaysRow, standIns := [], harness := (true, "f177809486fda232943873e00a39145854fcb6063b7c0645d098efd96bfb6040"), looks := false }, kinds := [], alts := [], laidByText := true, laidKinds := [.data], laidTests := true, laidLooks := .later }
def SampleSaysCardSaid : Prop := Claim7.holds Tryd.pinned (.plain (OpenSpec.ofChange sampleSaysSpec)) sampleSaysCard

/-- THE TIED CARD OF 'sigillaw11.SampleLists'. -/
def sampleListsCard : Claim7 := { stood := { row := sampleListsRow, standIns := [], harness := (true, "f177809486fda232943873e00a39145854fcb6063b7c0645d098efd96bfb6040"), looks := false }, kinds := [], alts := [], laidByText := true, laidKinds := [.data], laidTests := true, laidLooks := .later }
def SampleListsCardSaid : Prop := Claim7.holds Tryd.pinned (.plain (OpenSpec.ofChange sampleListsSpec)) sampleListsCard

/-- THE TIED CARD OF 'sigillaw11.SampleSmall'. -/
def sampleSmallCard : Claim7 := { stood := { row := sampleSmallRow, standIns := [], harness := (true, "f177809486fda232943873e00a39145854fcb6063b7c0645d098efd96bfb6040"), looks := false }, kinds := [], alts := [], laidByText := true, laidKinds := [.data], laidTests := true, laidLooks := .later }
def SampleSmallCardSaid : Prop := Claim7.holds Tryd.pinned (.plain (OpenSpec.ofChange sampleSmallSpec)) sampleSmallCard

/-- THE SECOND FORM's CARD OF 'sigillaw11.SampleSays'. -/
def sampleSaysUptoCard : Claim7 := { stood := { row := sampleSaysUptoRow, standIns := [], harness := (true, "f177809486fda232943873e00a39145854fcb6063b7c0645d098efd96bfb6040"), looks := false }, kinds := [], alts := [], laidByText := true, laidKinds := [.data], laidTests := true, laidLooks := .later }
def SampleSaysUptoCardSaid : Prop := Claim7.holds Tryd.pinned (.plain (OpenSpec.upto sampleSaysSpec)) sampleSaysUptoCard

/-- THE SECOND FORM's CARD OF 'sigillaw11.SampleLists'. -/
def sampleListsUptoCard : Claim7 := { stood := { row := sampleListsUptoRow, standIns := [], harness := (true, "f177809486fda232943873e00a39145854fcb6063b7c0645d098efd96bfb6040"), looks := false }, kinds := [], alts := [], laidByText := true, laidKinds := [.data], laidTests := true, laidLooks := .later }
def SampleListsUptoCardSaid : Prop := Claim7.holds Tryd.pinned (.plain (OpenSpec.upto sampleListsSpec)) sampleListsUptoCard

/-- THE SECOND FORM's CARD OF 'sigillaw11.SampleSmall'. -/
def sampleSmallUptoCard : Claim7 := { stood := { row := sampleSmallUptoRow, standIns := [], harness := (true, "f177809486fda232943873e00a39145854fcb6063b7c0645d098efd96bfb6040"), looks := false }, kinds := [], alts := [], laidByText := true, laidKinds := [.data], laidTests := true, laidLooks := .later }
def SampleSmallUptoCardSaid : Prop := Claim7.holds Tryd.pinned (.plain (OpenSpec.upto sampleSmallSpec)) sampleSmallUptoCard
end Rows
end Go.Proofs.YtjdcmnmnjkkpiaaDoor
