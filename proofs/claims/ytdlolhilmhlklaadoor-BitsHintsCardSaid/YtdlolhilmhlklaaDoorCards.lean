/-
  DERIVED. GIVEN WITH THE SEED: THE CARDS: each row of YtdlolhilmhlklaaDoorRows.lean that lists a variable, with what it lists TIED to the program's text (the seventh form; the later family's looks); each row that meets fmt, with fmt's text TOLD by the authors' own Lean function (tested against real Go, not proved from fmt's source: count such statements apart). THE CARD IS WHAT COUNTS. Prove the row's statement (the work); the ties are given (YtdlolhilmhlklaaDoorTie.lean); close each card by the builder's one call (the guide's Derived/Test/ToyasCard.lean, 'card_holds'). Laid BY PROGRAM, IN A SANDBOX (cutbox-door.mjs). By AI agents, Wed Nov 11 2026. No macro, syntax, notation, axiom, sorry.
-/
import Derived.Test.YtdlolhilmhlklaaDoorRows
import GoSem.ClaimSeven
namespace Go.Proofs.YtdlolhilmhlklaaDoor
namespace Rows

/-- THE TIED CARD OF 'sigillaw10.BitsRead'. -/
def bitsReadCard : Claim7 := { stood := { row := bitsReadRow, standIns := [], harness := (true, "6dc65ede452e282e691db53224b4bd3834425c64ed9cc8c60134a55e171081a8"), looks := false }, kinds := [], alts := [], laidByText := true, laidKinds := [.data, .pinned], laidTests := true, laidLooks := .later }
def BitsReadCardSaid : Prop := Claim7.holds Tryd.pinned (.plain (OpenSpec.ofChange bitsReadSpec)) bitsReadCard

/-- THE TIED CARD OF 'sigillaw10.BitsHints'. -/
def bitsHintsCard : Claim7 := { stood := { row := bitsHintsRow, standIns := [], harness := (true, "6dc65ede452e282e691db53224b4bd3834425c64ed9cc8c60134a55e171081a8"), looks := false }, kinds := [], alts := [], laidByText := true, laidKinds := [.data, .pinned], laidTests := true, laidLooks := .later }
def BitsHintsCardSaid : Prop := Claim7.holds Tryd.pinned (.plain (OpenSpec.ofChange bitsHintsSpec)) bitsHintsCard

/-- THE SECOND FORM's CARD OF 'sigillaw10.BitsRead'. -/
def bitsReadUptoCard : Claim7 := { stood := { row := bitsReadUptoRow, standIns := [], harness := (true, "6dc65ede452e282e691db53224b4bd3834425c64ed9cc8c60134a55e171081a8"), looks := false }, kinds := [], alts := [], laidByText := true, laidKinds := [.data, .pinned], laidTests := true, laidLooks := .later }
def BitsReadUptoCardSaid : Prop := Claim7.holds Tryd.pinned (.plain (OpenSpec.upto bitsReadSpec)) bitsReadUptoCard

/-- THE SECOND FORM's CARD OF 'sigillaw10.BitsHints'. -/
def bitsHintsUptoCard : Claim7 := { stood := { row := bitsHintsUptoRow, standIns := [], harness := (true, "6dc65ede452e282e691db53224b4bd3834425c64ed9cc8c60134a55e171081a8"), looks := false }, kinds := [], alts := [], laidByText := true, laidKinds := [.data, .pinned], laidTests := true, laidLooks := .later }
def BitsHintsUptoCardSaid : Prop := Claim7.holds Tryd.pinned (.plain (OpenSpec.upto bitsHintsSpec)) bitsHintsUptoCard
end Rows
end Go.Proofs.YtdlolhilmhlklaaDoor
