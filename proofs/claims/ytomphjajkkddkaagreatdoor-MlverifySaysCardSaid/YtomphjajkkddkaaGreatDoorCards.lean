/-
  DERIVED. GIVEN WITH THE SEED: THE CARDS: each row of YtomphjajkkddkaaGreatDoorRows.lean that lists a variable, with what it lists TIED to the program's text (the seventh form; the later family's looks); each row that meets fmt, with fmt's text TOLD by the authors' own Lean function (tested against real Go, not proved from fmt's source: count such statements apart). THE CARD IS WHAT COUNTS. Prove the row's statement (the work); the ties are given (YtomphjajkkddkaaGreatDoorTie.lean); close each card by the builder's one call (the guide's Derived/Test/ToyasCard.lean, 'card_holds'). Laid BY PROGRAM, IN A SANDBOX (cutbox-door.mjs). By AI agents, Wed Nov 11 2026. No macro, syntax, notation, axiom, sorry.
-/
import Derived.Test.YtomphjajkkddkaaGreatDoorRows
import GoSem.ClaimSeven
namespace Go.Proofs.YtomphjajkkddkaaGreatDoor
namespace Rows

/-- THE TIED CARD OF 'sigillaw14.MlverifySays'. -/
def mlverifySaysCard : Claim7 := { stood := { row := mlverifySaysRow, standIns := [], harness := (true, "c1c45dabe77cedde36080283d4d8706309d3da0aba97d6010d6e76cf30599841"), looks := false }, kinds := [], alts := [], laidByText := true, laidKinds := [.data, .data, .pinned], laidTests := true, laidLooks := .later }
def MlverifySaysCardSaid : Prop := Claim7.holds Tryz.pinned (.plain (OpenSpec.ofChange mlverifySaysSpec)) mlverifySaysCard

/-- THE TIED CARD OF 'sigillaw14.MlverifyTakes'. -/
def mlverifyTakesCard : Claim7 := { stood := { row := mlverifyTakesRow, standIns := [], harness := (true, "c1c45dabe77cedde36080283d4d8706309d3da0aba97d6010d6e76cf30599841"), looks := false }, kinds := [], alts := [], laidByText := true, laidKinds := [.data, .data, .pinned], laidTests := true, laidLooks := .later }
def MlverifyTakesCardSaid : Prop := Claim7.holds Tryz.pinned (.plain (OpenSpec.ofChange mlverifyTakesSpec)) mlverifyTakesCard

/-- THE TIED CARD OF 'sigillaw14.MlverifyForms'. -/
def mlverifyFormsCard : Claim7 := { stood := { row := mlverifyFormsRow, standIns := [], harness := (true, "c1c45dabe77cedde36080283d4d8706309d3da0aba97d6010d6e76cf30599841"), looks := false }, kinds := [], alts := [], laidByText := true, laidKinds := [.data, .data, .pinned], laidTests := true, laidLooks := .later }
def MlverifyFormsCardSaid : Prop := Claim7.holds Tryz.pinned (.plain (OpenSpec.ofChange mlverifyFormsSpec)) mlverifyFormsCard

/-- THE SECOND FORM's CARD OF 'sigillaw14.MlverifySays'. -/
def mlverifySaysUptoCard : Claim7 := { stood := { row := mlverifySaysUptoRow, standIns := [], harness := (true, "c1c45dabe77cedde36080283d4d8706309d3da0aba97d6010d6e76cf30599841"), looks := false }, kinds := [], alts := [], laidByText := true, laidKinds := [.data, .data, .pinned], laidTests := true, laidLooks := .later }
def MlverifySaysUptoCardSaid : Prop := Claim7.holds Tryz.pinned (.plain (OpenSpec.upto mlverifySaysSpec)) mlverifySaysUptoCard

/-- THE SECOND FORM's CARD OF 'sigillaw14.MlverifyTakes'. -/
def mlverifyTakesUptoCard : Claim7 := { stood := { row := mlverifyTakesUptoRow, standIns := [], harness := (true, "c1c45dabe77cedde36080283d4d8706309d3da0aba97d6010d6e76cf30599841"), looks := false }, kinds := [], alts := [], laidByText := true, laidKinds := [.data, .data, .pinned], laidTests := true, laidLooks := .later }
def MlverifyTakesUptoCardSaid : Prop := Claim7.holds Tryz.pinned (.plain (OpenSpec.upto mlverifyTakesSpec)) mlverifyTakesUptoCard

/-- THE SECOND FORM's CARD OF 'sigillaw14.MlverifyForms'. -/
def mlverifyFormsUptoCard : Claim7 := { stood := { row := mlverifyFormsUptoRow, standIns := [], harness := (true, "c1c45dabe77cedde36080283d4d8706309d3da0aba97d6010d6e76cf30599841"), looks := false }, kinds := [], alts := [], laidByText := true, laidKinds := [.data, .data, .pinned], laidTests := true, laidLooks := .later }
def MlverifyFormsUptoCardSaid : Prop := Claim7.holds Tryz.pinned (.plain (OpenSpec.upto mlverifyFormsSpec)) mlverifyFormsUptoCard
end Rows
end Go.Proofs.YtomphjajkkddkaaGreatDoor
