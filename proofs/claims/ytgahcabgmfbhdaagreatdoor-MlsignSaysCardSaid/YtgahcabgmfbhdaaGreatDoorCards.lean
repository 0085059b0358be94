/-
  DERIVED. GIVEN WITH THE SEED: THE CARDS: each row of YtgahcabgmfbhdaaGreatDoorRows.lean that lists a variable, with what it lists TIED to the program's text (the seventh form; the later family's looks); each row that meets fmt, with fmt's text TOLD by the authors' own Lean function (tested against real Go, not proved from fmt's source: count such statements apart). THE CARD IS WHAT COUNTS. Prove the row's statement (the work); the ties are given (YtgahcabgmfbhdaaGreatDoorTie.lean); close each card by the builder's one call (the guide's Derived/Test/ToyasCard.lean, 'card_holds'). Laid BY PROGRAM, IN A SANDBOX (cutbox-door.mjs). By AI agents, Wed Nov 11 2026. No macro, syntax, notation, axiom, sorry.
-/
import Derived.Test.YtgahcabgmfbhdaaGreatDoorRows
import GoSem.ClaimSeven
namespace Go.Proofs.YtgahcabgmfbhdaaGreatDoor
namespace Rows

/-- THE TIED CARD OF 'sigillaw13.MlsignSays'. -/
def mlsignSaysCard : Claim7 := { stood := { row := mlsignSaysRow, standIns := [], harness := (true, "e140379fa1c24192b2d8d778adb3b306ef9cf179b00cc2a0a177c55fd56b28fe"), looks := false }, kinds := [], alts := [], laidByText := true, laidKinds := [.data], laidTests := true, laidLooks := .later }
def MlsignSaysCardSaid : Prop := Claim7.holds Tryz.pinned (.plain (OpenSpec.ofChange mlsignSaysSpec)) mlsignSaysCard

/-- THE TIED CARD OF 'sigillaw13.MlsignSizes'. -/
def mlsignSizesCard : Claim7 := { stood := { row := mlsignSizesRow, standIns := [], harness := (true, "e140379fa1c24192b2d8d778adb3b306ef9cf179b00cc2a0a177c55fd56b28fe"), looks := false }, kinds := [], alts := [], laidByText := true, laidKinds := [.data], laidTests := true, laidLooks := .later }
def MlsignSizesCardSaid : Prop := Claim7.holds Tryz.pinned (.plain (OpenSpec.ofChange mlsignSizesSpec)) mlsignSizesCard

/-- THE TIED CARD OF 'sigillaw13.MlsignMessage'. -/
def mlsignMessageCard : Claim7 := { stood := { row := mlsignMessageRow, standIns := [], harness := (true, "e140379fa1c24192b2d8d778adb3b306ef9cf179b00cc2a0a177c55fd56b28fe"), looks := false }, kinds := [], alts := [], laidByText := true, laidKinds := [.data], laidTests := true, laidLooks := .later }
def MlsignMessageCardSaid : Prop := Claim7.holds Tryz.pinned (.plain (OpenSpec.ofChange mlsignMessageSpec)) mlsignMessageCard

/-- THE SECOND FORM's CARD OF 'sigillaw13.MlsignSays'. -/
def mlsignSaysUptoCard : Claim7 := { stood := { row := mlsignSaysUptoRow, standIns := [], harness := (true, "e140379fa1c24192b2d8d778adb3b306ef9cf179b00cc2a0a177c55fd56b28fe"), looks := false }, kinds := [], alts := [], laidByText := true, laidKinds := [.data], laidTests := true, laidLooks := .later }
def MlsignSaysUptoCardSaid : Prop := Claim7.holds Tryz.pinned (.plain (OpenSpec.upto mlsignSaysSpec)) mlsignSaysUptoCard

/-- THE SECOND FORM's CARD OF 'sigillaw13.MlsignSizes'. -/
def mlsignSizesUptoCard : Claim7 := { stood := { row := mlsignSizesUptoRow, standIns := [], harness := (true, "e140379fa1c24192b2d8d778adb3b306ef9cf179b00cc2a0a177c55fd56b28fe"), looks := false }, kinds := [], alts := [], laidByText := true, laidKinds := [.data], laidTests := true, laidLooks := .later }
def MlsignSizesUptoCardSaid : Prop := Claim7.holds Tryz.pinned (.plain (OpenSpec.upto mlsignSizesSpec)) mlsignSizesUptoCard

/-- THE SECOND FORM's CARD OF 'sigillaw13.MlsignMessage'. -/
def mlsignMessageUptoCard : Claim7 := { stood := { row := mlsignMessageUptoRow, standIns := [], harness := (true, "e140379fa1c24192b2d8d778adb3b306ef9cf179b00cc2a0a177c55fd56b28fe"), looks := false }, kinds := [], alts := [], laidByText := true, laidKinds := [.data], laidTests := true, laidLooks := .later }
def MlsignMessageUptoCardSaid : Prop := Claim7.holds Tryz.pinned (.plain (OpenSpec.upto mlsignMessageSpec)) mlsignMessageUptoCard
end Rows
end Go.Proofs.YtgahcabgmfbhdaaGreatDoor
