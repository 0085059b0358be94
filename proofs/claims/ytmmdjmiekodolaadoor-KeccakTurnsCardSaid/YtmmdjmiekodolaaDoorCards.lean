/-
  DERIVED. GIVEN WITH THE SEED: THE CARDS: each row of YtmmdjmiekodolaaDoorRows.lean that lists a variable, with what it lists TIED to the program's text (the seventh form; the later family's looks); each row that meets fmt, with fmt's text TOLD by the authors' own Lean function (tested against real Go, not proved from fmt's source: count such statements apart). THE CARD IS WHAT COUNTS. Prove the row's statement (the work); the ties are given (YtmmdjmiekodolaaDoorTie.lean); close each card by the builder's one call (the guide's Derived/Test/ToyasCard.lean, 'card_holds'). Laid BY PROGRAM, IN A SANDBOX (cutbox-door.mjs). By AI agents, Wed Nov 11 2026. No macro, syntax, notation, axiom, sorry.
-/
import Derived.Test.YtmmdjmiekodolaaDoorRows
import GoSem.ClaimSeven
namespace Go.Proofs.YtmmdjmiekodolaaDoor
namespace Rows

/-- THE TIED CARD OF 'sigillaw05.KeccakSays'. -/
def keccakSaysCard : Claim7 := { stood := { row := keccakSaysRow, standIns := [], harness := (true, "40a05a931849df680364db13930c529e057599702ef7fa04ae2b9892661572c3"), looks := false }, kinds := [], alts := [], laidByText := true, laidKinds := [.data], laidTests := true, laidLooks := .later }
def KeccakSaysCardSaid : Prop := Claim7.holds Tryd.pinned (.plain (OpenSpec.ofChange keccakSaysSpec)) keccakSaysCard

/-- THE TIED CARD OF 'sigillaw05.KeccakAdds'. -/
def keccakAddsCard : Claim7 := { stood := { row := keccakAddsRow, standIns := [], harness := (true, "40a05a931849df680364db13930c529e057599702ef7fa04ae2b9892661572c3"), looks := false }, kinds := [], alts := [], laidByText := true, laidKinds := [.data], laidTests := true, laidLooks := .later }
def KeccakAddsCardSaid : Prop := Claim7.holds Tryd.pinned (.plain (OpenSpec.ofChange keccakAddsSpec)) keccakAddsCard

/-- THE TIED CARD OF 'sigillaw05.KeccakTurns'. -/
def keccakTurnsCard : Claim7 := { stood := { row := keccakTurnsRow, standIns := [], harness := (true, "40a05a931849df680364db13930c529e057599702ef7fa04ae2b9892661572c3"), looks := false }, kinds := [], alts := [], laidByText := true, laidKinds := [.data], laidTests := true, laidLooks := .later }
def KeccakTurnsCardSaid : Prop := Claim7.holds Tryd.pinned (.plain (OpenSpec.ofChange keccakTurnsSpec)) keccakTurnsCard

/-- THE TIED CARD OF 'sigillaw05.KeccakSteps'. -/
def keccakStepsCard : Claim7 := { stood := { row := keccakStepsRow, standIns := [], harness := (true, "40a05a931849df680364db13930c529e057599702ef7fa04ae2b9892661572c3"), looks := false }, kinds := [], alts := [], laidByText := true, laidKinds := [.data], laidTests := true, laidLooks := .later }
def KeccakStepsCardSaid : Prop := Claim7.holds Tryd.pinned (.plain (OpenSpec.ofChange keccakStepsSpec)) keccakStepsCard

/-- THE SECOND FORM's CARD OF 'sigillaw05.KeccakSays'. -/
def keccakSaysUptoCard : Claim7 := { stood := { row := keccakSaysUptoRow, standIns := [], harness := (true, "40a05a931849df680364db13930c529e057599702ef7fa04ae2b9892661572c3"), looks := false }, kinds := [], alts := [], laidByText := true, laidKinds := [.data], laidTests := true, laidLooks := .later }
def KeccakSaysUptoCardSaid : Prop := Claim7.holds Tryd.pinned (.plain (OpenSpec.upto keccakSaysSpec)) keccakSaysUptoCard

/-- THE SECOND FORM's CARD OF 'sigillaw05.KeccakAdds'. -/
def keccakAddsUptoCard : Claim7 := { stood := { row := keccakAddsUptoRow, standIns := [], harness := (true, "40a05a931849df680364db13930c529e057599702ef7fa04ae2b9892661572c3"), looks := false }, kinds := [], alts := [], laidByText := true, laidKinds := [.data], laidTests := true, laidLooks := .later }
def KeccakAddsUptoCardSaid : Prop := Claim7.holds Tryd.pinned (.plain (OpenSpec.upto keccakAddsSpec)) keccakAddsUptoCard

/-- THE SECOND FORM's CARD OF 'sigillaw05.KeccakTurns'. -/
def keccakTurnsUptoCard : Claim7 := { stood := { row := keccakTurnsUptoRow, standIns := [], harness := (true, "40a05a931849df680364db13930c529e057599702ef7fa04ae2b9892661572c3"), looks := false }, kinds := [], alts := [], laidByText := true, laidKinds := [.data], laidTests := true, laidLooks := .later }
def KeccakTurnsUptoCardSaid : Prop := Claim7.holds Tryd.pinned (.plain (OpenSpec.upto keccakTurnsSpec)) keccakTurnsUptoCard

/-- THE SECOND FORM's CARD OF 'sigillaw05.KeccakSteps'. -/
def keccakStepsUptoCard : Claim7 := { stood := { row := keccakStepsUptoRow, standIns := [], harness := (true, "40a05a931849df680364db13930c529e057599702ef7fa04ae2b9892661572c3"), looks := false }, kinds := [], alts := [], laidByText := true, laidKinds := [.data], laidTests := true, laidLooks := .later }
def KeccakStepsUptoCardSaid : Prop := Claim7.holds Tryd.pinned (.plain (OpenSpec.upto keccakStepsSpec)) keccakStepsUptoCard
end Rows
end Go.Proofs.YtmmdjmiekodolaaDoor
