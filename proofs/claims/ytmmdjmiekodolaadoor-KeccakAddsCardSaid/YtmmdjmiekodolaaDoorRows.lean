/-
  NARROWER THAN 'FOR EVERY INPUT', by the rows' own cells (each row's printed sentence says how): KeccakSays: laid · KeccakAdds: laid · KeccakTurns: laid · KeccakSteps: laid.
  DERIVED. THE GIVEN ROWS OF THIS SEAT. 4 by the template 'for every input the law returns true; each argument reads behind the call as it read before'; 0 by the template 'total and deterministic' (their statements: YtmmdjmiekodolaaDoorTotals.lean).
  GIVEN WITH THE SEED: the statements are not yours to turn. If you find one false, say at which input.
  Laid BY PROGRAM, IN A SANDBOX (cutbox-rows.mjs): the forced cells as the released guide's own fill.sh prints them over the translation f0a5cee032cfa93d… (all of the seat's roots in one cut). By AI agents, Wed Nov 11 2026. No macro, syntax, notation, axiom, sorry.
-/
import Derived.Test.YtmmdjmiekodolaaDoorChecked
import GoSem.Claim
import GoSem.ClaimJoined
import GoSem.ClaimMapViews
import Derived.JoinedTies
import Derived.KernelRfl
namespace Go.Proofs.YtmmdjmiekodolaaDoor
/- THE CELL 'sum', in the pinned program and in every row, IS THE sha256 OF THE DUMP (.gsa) THAT YtmmdjmiekodolaaDoorProg.lean LOADS. Nothing in Lean hashes anything: it is a label: what it is worth is what the hold of that sum in a sandbox is worth. -/
noncomputable def Tryd.pinned : Pinned := { name := "ytmmdjmiekodolaadoor", sum := "f0a5cee032cfa93d6824c33f27b5cf460454f97f1cde76c8ae4931b3f174d423", checked := Tryd.checked }
namespace Rows
def none {H : Type} : Left H := { results := [], args := [] }

/- WHAT THE LISTED PACKAGE-LEVEL VARIABLES READ AS WHEN THE CALL BEGINS. Each datum BY PROGRAM (the guide's laid-datum.mjs) off the statement by which the dump's own 'gosem.cut.vars' lays the variable. In a bare row this is a premise. The card (YtmmdjmiekodolaaDoorCards.lean) ties it to the program's text. -/
def laid_sigil_keccak_places {H : Type} : DataW H := .agg [.lit (.int .i64 0), .lit (.int .i64 10), .lit (.int .i64 20), .lit (.int .i64 5), .lit (.int .i64 15), .lit (.int .i64 16), .lit (.int .i64 1), .lit (.int .i64 11), .lit (.int .i64 21), .lit (.int .i64 6), .lit (.int .i64 7), .lit (.int .i64 17), .lit (.int .i64 2), .lit (.int .i64 12), .lit (.int .i64 22), .lit (.int .i64 23), .lit (.int .i64 8), .lit (.int .i64 18), .lit (.int .i64 3), .lit (.int .i64 13), .lit (.int .i64 14), .lit (.int .i64 24), .lit (.int .i64 9), .lit (.int .i64 19), .lit (.int .i64 4)]

/-- 'sigillaw05.KeccakSays': WHATEVER THE INPUT: true; the input reads as it did. -/
def keccakSaysSpec : ChangeSpec := { name := "keccakSays", fn := fun _ => fun
  | [d1, d2, d3] => { results := [.lit (.bool true)], args := [d1, d2, d3] }
  | _ => none }
def keccakSaysRow : OpenClaim := { program := "ytmmdjmiekodolaadoor", sum := "f0a5cee032cfa93d6824c33f27b5cf460454f97f1cde76c8ae4931b3f174d423", func := "sigil/sigillaw05.KeccakSays", spec := "keccakSays", named := ["sigil/keccak.places"], apart := false, laid := [("sigil/keccak.places", laid_sigil_keccak_places)] }
def KeccakSaysSaid : Prop := keccakSaysRow.holds Tryd.pinned (OpenSpec.ofChange keccakSaysSpec)

/-- ITS FALSE NEIGHBOUR: 'it returns false'. Refute it at one input. -/
def keccakSaysWrong : ChangeSpec := { name := "keccakSays", fn := fun _ => fun
  | [d1, d2, d3] => { results := [.lit (.bool false)], args := [d1, d2, d3] }
  | _ => none }
def KeccakSaysWrongFalsely : Prop := keccakSaysRow.holds Tryd.pinned (OpenSpec.ofChange keccakSaysWrong)

/-- 'sigillaw05.KeccakAdds': WHATEVER THE INPUT: true; the input reads as it did. -/
def keccakAddsSpec : ChangeSpec := { name := "keccakAdds", fn := fun _ => fun
  | [d1, d2] => { results := [.lit (.bool true)], args := [d1, d2] }
  | _ => none }
def keccakAddsRow : OpenClaim := { program := "ytmmdjmiekodolaadoor", sum := "f0a5cee032cfa93d6824c33f27b5cf460454f97f1cde76c8ae4931b3f174d423", func := "sigil/sigillaw05.KeccakAdds", spec := "keccakAdds", named := ["sigil/keccak.places"], apart := false, laid := [("sigil/keccak.places", laid_sigil_keccak_places)] }
def KeccakAddsSaid : Prop := keccakAddsRow.holds Tryd.pinned (OpenSpec.ofChange keccakAddsSpec)

/-- ITS FALSE NEIGHBOUR: 'it returns false'. Refute it at one input. -/
def keccakAddsWrong : ChangeSpec := { name := "keccakAdds", fn := fun _ => fun
  | [d1, d2] => { results := [.lit (.bool false)], args := [d1, d2] }
  | _ => none }
def KeccakAddsWrongFalsely : Prop := keccakAddsRow.holds Tryd.pinned (OpenSpec.ofChange keccakAddsWrong)

/-- 'sigillaw05.KeccakTurns': WHATEVER THE INPUT: true; the input reads as it did. -/
def keccakTurnsSpec : ChangeSpec := { name := "keccakTurns", fn := fun _ => fun
  | [d1, d2] => { results := [.lit (.bool true)], args := [d1, d2] }
  | _ => none }
def keccakTurnsRow : OpenClaim := { program := "ytmmdjmiekodolaadoor", sum := "f0a5cee032cfa93d6824c33f27b5cf460454f97f1cde76c8ae4931b3f174d423", func := "sigil/sigillaw05.KeccakTurns", spec := "keccakTurns", named := ["sigil/keccak.places"], apart := false, laid := [("sigil/keccak.places", laid_sigil_keccak_places)] }
def KeccakTurnsSaid : Prop := keccakTurnsRow.holds Tryd.pinned (OpenSpec.ofChange keccakTurnsSpec)

/-- ITS FALSE NEIGHBOUR: 'it returns false'. Refute it at one input. -/
def keccakTurnsWrong : ChangeSpec := { name := "keccakTurns", fn := fun _ => fun
  | [d1, d2] => { results := [.lit (.bool false)], args := [d1, d2] }
  | _ => none }
def KeccakTurnsWrongFalsely : Prop := keccakTurnsRow.holds Tryd.pinned (OpenSpec.ofChange keccakTurnsWrong)

/-- 'sigillaw05.KeccakSteps': WHATEVER THE INPUT: true; the input reads as it did. -/
def keccakStepsSpec : ChangeSpec := { name := "keccakSteps", fn := fun _ => fun
  | [d1, d2] => { results := [.lit (.bool true)], args := [d1, d2] }
  | _ => none }
def keccakStepsRow : OpenClaim := { program := "ytmmdjmiekodolaadoor", sum := "f0a5cee032cfa93d6824c33f27b5cf460454f97f1cde76c8ae4931b3f174d423", func := "sigil/sigillaw05.KeccakSteps", spec := "keccakSteps", named := ["sigil/keccak.places"], apart := false, laid := [("sigil/keccak.places", laid_sigil_keccak_places)] }
def KeccakStepsSaid : Prop := keccakStepsRow.holds Tryd.pinned (OpenSpec.ofChange keccakStepsSpec)

/-- ITS FALSE NEIGHBOUR: 'it returns false'. Refute it at one input. -/
def keccakStepsWrong : ChangeSpec := { name := "keccakSteps", fn := fun _ => fun
  | [d1, d2] => { results := [.lit (.bool false)], args := [d1, d2] }
  | _ => none }
def KeccakStepsWrongFalsely : Prop := keccakStepsRow.holds Tryd.pinned (OpenSpec.ofChange keccakStepsWrong)

/- THE SECOND FORM. 'bulk': how many values and letters a reading holds, each counted each time it is reached (what is shared counts as often as it is met; a slice's spare places count too). A statement '..UptoSaid' is the law's where the arguments, and the package variables that the reading takes, are together of bulk at most 1048576: NARROWER than '..Said'. Prove '..Said' where nothing that the law and all that it calls make is longer than what came in: it says more and counts as full. Else prove '..UptoSaid'. A law counts once. -/
mutual
def uptoBulk {H : Type} : DataW H → Nat
  | .lit (.string bytes) => bytes.length + 1
  | .lit _ => 1
  | .nil => 1
  | .ptr d => uptoBulk d + 1
  | .slice elems spare => uptoBulkAll elems + uptoBulkAll spare + 1
  | .agg parts => uptoBulkAll parts + 1
  | .iface _ d => uptoBulk d + 1
  | .map entries => uptoBulkEntries entries + 1
  | .held _ => 1
def uptoBulkAll {H : Type} : List (DataW H) → Nat
  | [] => 0
  | d :: r => uptoBulk d + uptoBulkAll r
def uptoBulkEntries {H : Type} : List (Lit × DataW H) → Nat
  | [] => 0
  | x :: r => uptoBulkEntry x + uptoBulkEntries r
def uptoBulkEntry {H : Type} : Lit × DataW H → Nat
  | (.string bytes, d) => bytes.length + uptoBulk d + 1
  | (_, d) => uptoBulk d + 1
 end
def uptoSmall : (H : Type) → List (DataW H) → Bool := fun _ ds => decide (uptoBulkAll ds ≤ 1048576)
def OpenSpec.upto (s : _root_.Go.ChangeSpec) : _root_.Go.OpenSpec := { _root_.Go.OpenSpec.ofChange s with cond := some uptoSmall }

/-- 'sigillaw05.KeccakSays', WHERE WHAT IT READS IS OF BULK AT MOST 1048576: true; the input reads as it did. -/
def keccakSaysUptoRow : OpenClaim := { program := "ytmmdjmiekodolaadoor", sum := "f0a5cee032cfa93d6824c33f27b5cf460454f97f1cde76c8ae4931b3f174d423", func := "sigil/sigillaw05.KeccakSays", spec := "keccakSays", named := ["sigil/keccak.places"], apart := false, laid := [("sigil/keccak.places", laid_sigil_keccak_places)], narrowed := true }
def KeccakSaysUptoSaid : Prop := keccakSaysUptoRow.holds Tryd.pinned (OpenSpec.upto keccakSaysSpec)

/-- 'sigillaw05.KeccakAdds', WHERE WHAT IT READS IS OF BULK AT MOST 1048576: true; the input reads as it did. -/
def keccakAddsUptoRow : OpenClaim := { program := "ytmmdjmiekodolaadoor", sum := "f0a5cee032cfa93d6824c33f27b5cf460454f97f1cde76c8ae4931b3f174d423", func := "sigil/sigillaw05.KeccakAdds", spec := "keccakAdds", named := ["sigil/keccak.places"], apart := false, laid := [("sigil/keccak.places", laid_sigil_keccak_places)], narrowed := true }
def KeccakAddsUptoSaid : Prop := keccakAddsUptoRow.holds Tryd.pinned (OpenSpec.upto keccakAddsSpec)

/-- 'sigillaw05.KeccakTurns', WHERE WHAT IT READS IS OF BULK AT MOST 1048576: true; the input reads as it did. -/
def keccakTurnsUptoRow : OpenClaim := { program := "ytmmdjmiekodolaadoor", sum := "f0a5cee032cfa93d6824c33f27b5cf460454f97f1cde76c8ae4931b3f174d423", func := "sigil/sigillaw05.KeccakTurns", spec := "keccakTurns", named := ["sigil/keccak.places"], apart := false, laid := [("sigil/keccak.places", laid_sigil_keccak_places)], narrowed := true }
def KeccakTurnsUptoSaid : Prop := keccakTurnsUptoRow.holds Tryd.pinned (OpenSpec.upto keccakTurnsSpec)

/-- 'sigillaw05.KeccakSteps', WHERE WHAT IT READS IS OF BULK AT MOST 1048576: true; the input reads as it did. -/
def keccakStepsUptoRow : OpenClaim := { program := "ytmmdjmiekodolaadoor", sum := "f0a5cee032cfa93d6824c33f27b5cf460454f97f1cde76c8ae4931b3f174d423", func := "sigil/sigillaw05.KeccakSteps", spec := "keccakSteps", named := ["sigil/keccak.places"], apart := false, laid := [("sigil/keccak.places", laid_sigil_keccak_places)], narrowed := true }
def KeccakStepsUptoSaid : Prop := keccakStepsUptoRow.holds Tryd.pinned (OpenSpec.upto keccakStepsSpec)

end Rows
end Go.Proofs.YtmmdjmiekodolaaDoor
