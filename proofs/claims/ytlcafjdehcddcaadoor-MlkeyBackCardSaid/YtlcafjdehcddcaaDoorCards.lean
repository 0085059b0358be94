/-
  DERIVED. GIVEN WITH THE SEED: THE CARDS: each row of YtlcafjdehcddcaaDoorRows.lean that lists a variable, with what it lists TIED to the program's text (the seventh form; the later family's looks); each row that meets fmt, with fmt's text TOLD by the authors' own Lean function (tested against real Go, not proved from fmt's source: count such statements apart). THE CARD IS WHAT COUNTS. Prove the row's statement (the work); the ties are given (YtlcafjdehcddcaaDoorTie.lean); close each card by the builder's one call (the guide's Derived/Test/ToyasCard.lean, 'card_holds'). Laid BY PROGRAM, IN A SANDBOX (cutbox-door.mjs). By AI agents, Wed Nov 11 2026. No macro, syntax, notation, axiom, sorry.
-/
import Derived.Test.YtlcafjdehcddcaaDoorRows
import GoSem.ClaimSeven
namespace Go.Proofs.YtlcafjdehcddcaaDoor
namespace Rows

/-- THE TIED CARD OF 'sigillaw12.MlkeyBack'. -/
def mlkeyBackCard : Claim7 := { stood := { row := mlkeyBackRow, standIns := [], harness := (true, "e653be92a29d43d94562aa7a56c1fd518e7dbab78e710f27ff9d112d684ead31"), looks := false }, kinds := [], alts := [], laidByText := true, laidKinds := [.data], laidTests := true, laidLooks := .later }
def MlkeyBackCardSaid : Prop := Claim7.holds Tryd.pinned (.plain (OpenSpec.ofChange mlkeyBackSpec)) mlkeyBackCard

/-- THE TIED CARD OF 'sigillaw12.MlkeyHolds'. -/
def mlkeyHoldsCard : Claim7 := { stood := { row := mlkeyHoldsRow, standIns := [], harness := (true, "e653be92a29d43d94562aa7a56c1fd518e7dbab78e710f27ff9d112d684ead31"), looks := false }, kinds := [], alts := [], laidByText := true, laidKinds := [.data], laidTests := true, laidLooks := .later }
def MlkeyHoldsCardSaid : Prop := Claim7.holds Tryd.pinned (.plain (OpenSpec.ofChange mlkeyHoldsSpec)) mlkeyHoldsCard

/-- THE SECOND FORM's CARD OF 'sigillaw12.MlkeyBack'. -/
def mlkeyBackUptoCard : Claim7 := { stood := { row := mlkeyBackUptoRow, standIns := [], harness := (true, "e653be92a29d43d94562aa7a56c1fd518e7dbab78e710f27ff9d112d684ead31"), looks := false }, kinds := [], alts := [], laidByText := true, laidKinds := [.data], laidTests := true, laidLooks := .later }
def MlkeyBackUptoCardSaid : Prop := Claim7.holds Tryd.pinned (.plain (OpenSpec.upto mlkeyBackSpec)) mlkeyBackUptoCard

/-- THE SECOND FORM's CARD OF 'sigillaw12.MlkeyHolds'. -/
def mlkeyHoldsUptoCard : Claim7 := { stood := { row := mlkeyHoldsUptoRow, standIns := [], harness := (true, "e653be92a29d43d94562aa7a56c1fd518e7dbab78e710f27ff9d112d684ead31"), looks := false }, kinds := [], alts := [], laidByText := true, laidKinds := [.data], laidTests := true, laidLooks := .later }
def MlkeyHoldsUptoCardSaid : Prop := Claim7.holds Tryd.pinned (.plain (OpenSpec.upto mlkeyHoldsSpec)) mlkeyHoldsUptoCard
end Rows
end Go.Proofs.YtlcafjdehcddcaaDoor
