/-
  DERIVED. GIVEN WITH THE SEED: THE CARDS: each row of YtlcafjdehcddcaaGreatDoorRows.lean that lists a variable, with what it lists TIED to the program's text (the seventh form; the later family's looks); each row that meets fmt, with fmt's text TOLD by the authors' own Lean function (tested against real Go, not proved from fmt's source: count such statements apart). THE CARD IS WHAT COUNTS. Prove the row's statement (the work); the ties are given (YtlcafjdehcddcaaGreatDoorTie.lean); close each card by the builder's one call (the guide's Derived/Test/ToyasCard.lean, 'card_holds'). Laid BY PROGRAM, IN A SANDBOX (cutbox-door.mjs). By AI agents, Wed Nov 11 2026. No macro, syntax, notation, axiom, sorry.
-/
import Derived.Test.YtlcafjdehcddcaaGreatDoorRows
import GoSem.ClaimSeven
namespace Go.Proofs.YtlcafjdehcddcaaGreatDoor
namespace Rows

/-- THE TIED CARD OF 'sigillaw12.MlkeySays'. -/
def mlkeySaysCard : Claim7 := { stood := { row := mlkeySaysRow, standIns := [], harness := (true, "3cff889d1a6142a5d9ba43ffa7717b5c3eb91cf579bb77d689bfb50808f74e08"), looks := false }, kinds := [], alts := [], laidByText := true, laidKinds := [.data], laidTests := true, laidLooks := .later }
def MlkeySaysCardSaid : Prop := Claim7.holds Tryz.pinned (.plain (OpenSpec.ofChange mlkeySaysSpec)) mlkeySaysCard

/-- THE TIED CARD OF 'sigillaw12.MlkeyBytes'. -/
def mlkeyBytesCard : Claim7 := { stood := { row := mlkeyBytesRow, standIns := [], harness := (true, "3cff889d1a6142a5d9ba43ffa7717b5c3eb91cf579bb77d689bfb50808f74e08"), looks := false }, kinds := [], alts := [], laidByText := true, laidKinds := [.data], laidTests := true, laidLooks := .later }
def MlkeyBytesCardSaid : Prop := Claim7.holds Tryz.pinned (.plain (OpenSpec.ofChange mlkeyBytesSpec)) mlkeyBytesCard

/-- THE SECOND FORM's CARD OF 'sigillaw12.MlkeySays'. -/
def mlkeySaysUptoCard : Claim7 := { stood := { row := mlkeySaysUptoRow, standIns := [], harness := (true, "3cff889d1a6142a5d9ba43ffa7717b5c3eb91cf579bb77d689bfb50808f74e08"), looks := false }, kinds := [], alts := [], laidByText := true, laidKinds := [.data], laidTests := true, laidLooks := .later }
def MlkeySaysUptoCardSaid : Prop := Claim7.holds Tryz.pinned (.plain (OpenSpec.upto mlkeySaysSpec)) mlkeySaysUptoCard

/-- THE SECOND FORM's CARD OF 'sigillaw12.MlkeyBytes'. -/
def mlkeyBytesUptoCard : Claim7 := { stood := { row := mlkeyBytesUptoRow, standIns := [], harness := (true, "3cff889d1a6142a5d9ba43ffa7717b5c3eb91cf579bb77d689bfb50808f74e08"), looks := false }, kinds := [], alts := [], laidByText := true, laidKinds := [.data], laidTests := true, laidLooks := .later }
def MlkeyBytesUptoCardSaid : Prop := Claim7.holds Tryz.pinned (.plain (OpenSpec.upto mlkeyBytesSpec)) mlkeyBytesUptoCard
end Rows
end Go.Proofs.YtlcafjdehcddcaaGreatDoor
