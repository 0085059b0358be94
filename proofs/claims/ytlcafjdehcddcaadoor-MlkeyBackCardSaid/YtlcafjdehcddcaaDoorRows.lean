/-
  NARROWER THAN 'FOR EVERY INPUT', by the rows' own cells (each row's printed sentence says how): MlkeyBack: laid · MlkeyHolds: laid.
  DERIVED. THE GIVEN ROWS OF THIS SEAT. 2 by the template 'for every input the law returns true; each argument reads behind the call as it read before'; 0 by the template 'total and deterministic' (their statements: YtlcafjdehcddcaaDoorTotals.lean).
  GIVEN WITH THE SEED: the statements are not yours to turn. If you find one false, say at which input.
  Laid BY PROGRAM, IN A SANDBOX (cutbox-rows.mjs): the forced cells as the released guide's own fill.sh prints them over the translation f91690a6cd1c91ac… (all of the seat's roots in one cut). By AI agents, Wed Nov 11 2026. No macro, syntax, notation, axiom, sorry.
-/
import Derived.Test.YtlcafjdehcddcaaDoorChecked
import GoSem.Claim
import GoSem.ClaimJoined
import GoSem.ClaimMapViews
import Derived.JoinedTies
import Derived.KernelRfl
namespace Go.Proofs.YtlcafjdehcddcaaDoor
/- THE CELL 'sum', in the pinned program and in every row, IS THE sha256 OF THE DUMP (.gsa) THAT YtlcafjdehcddcaaDoorProg.lean LOADS. Nothing in Lean hashes anything: it is a label: what it is worth is what the hold of that sum in a sandbox is worth. -/
noncomputable def Tryd.pinned : Pinned := { name := "ytlcafjdehcddcaadoor", sum := "f91690a6cd1c91ac8a2d233ba7f9ba78b6f09c591e8ea49320e0833736328765", checked := Tryd.checked }
namespace Rows
def none {H : Type} : Left H := { results := [], args := [] }

/- WHAT THE LISTED PACKAGE-LEVEL VARIABLES READ AS WHEN THE CALL BEGINS. Each datum BY PROGRAM (the guide's laid-datum.mjs) off the statement by which the dump's own 'gosem.cut.vars' lays the variable. In a bare row this is a premise. The card (YtlcafjdehcddcaaDoorCards.lean) ties it to the program's text. -/
def laid_sigil_keccak_places {H : Type} : DataW H := .agg [.lit (.int .i64 0), .lit (.int .i64 10), .lit (.int .i64 20), .lit (.int .i64 5), .lit (.int .i64 15), .lit (.int .i64 16), .lit (.int .i64 1), .lit (.int .i64 11), .lit (.int .i64 21), .lit (.int .i64 6), .lit (.int .i64 7), .lit (.int .i64 17), .lit (.int .i64 2), .lit (.int .i64 12), .lit (.int .i64 22), .lit (.int .i64 23), .lit (.int .i64 8), .lit (.int .i64 18), .lit (.int .i64 3), .lit (.int .i64 13), .lit (.int .i64 14), .lit (.int .i64 24), .lit (.int .i64 9), .lit (.int .i64 19), .lit (.int .i64 4)]

/-- 'sigillaw12.MlkeyBack': WHATEVER THE INPUT: true; the input reads as it did. -/
def mlkeyBackSpec : ChangeSpec := { name := "mlkeyBack", fn := fun _ => fun
  | [d1, d2, d3] => { results := [.lit (.bool true)], args := [d1, d2, d3] }
  | _ => none }
def mlkeyBackRow : OpenClaim := { program := "ytlcafjdehcddcaadoor", sum := "f91690a6cd1c91ac8a2d233ba7f9ba78b6f09c591e8ea49320e0833736328765", func := "sigil/sigillaw12.MlkeyBack", spec := "mlkeyBack", unfollowed := true, recurses := true, named := ["sigil/keccak.places"], apart := false, laid := [("sigil/keccak.places", laid_sigil_keccak_places)] }
def MlkeyBackSaid : Prop := mlkeyBackRow.holds Tryd.pinned (OpenSpec.ofChange mlkeyBackSpec)

/-- ITS FALSE NEIGHBOUR: 'it returns false'. Refute it at one input. -/
def mlkeyBackWrong : ChangeSpec := { name := "mlkeyBack", fn := fun _ => fun
  | [d1, d2, d3] => { results := [.lit (.bool false)], args := [d1, d2, d3] }
  | _ => none }
def MlkeyBackWrongFalsely : Prop := mlkeyBackRow.holds Tryd.pinned (OpenSpec.ofChange mlkeyBackWrong)

/-- 'sigillaw12.MlkeyHolds': WHATEVER THE INPUT: true; the input reads as it did. -/
def mlkeyHoldsSpec : ChangeSpec := { name := "mlkeyHolds", fn := fun _ => fun
  | [d1, d2] => { results := [.lit (.bool true)], args := [d1, d2] }
  | _ => none }
def mlkeyHoldsRow : OpenClaim := { program := "ytlcafjdehcddcaadoor", sum := "f91690a6cd1c91ac8a2d233ba7f9ba78b6f09c591e8ea49320e0833736328765", func := "sigil/sigillaw12.MlkeyHolds", spec := "mlkeyHolds", unfollowed := true, recurses := true, named := ["sigil/keccak.places"], apart := false, laid := [("sigil/keccak.places", laid_sigil_keccak_places)] }
def MlkeyHoldsSaid : Prop := mlkeyHoldsRow.holds Tryd.pinned (OpenSpec.ofChange mlkeyHoldsSpec)

/-- ITS FALSE NEIGHBOUR: 'it returns false'. Refute it at one input. -/
def mlkeyHoldsWrong : ChangeSpec := { name := "mlkeyHolds", fn := fun _ => fun
  | [d1, d2] => { results := [.lit (.bool false)], args := [d1, d2] }
  | _ => none }
def MlkeyHoldsWrongFalsely : Prop := mlkeyHoldsRow.holds Tryd.pinned (OpenSpec.ofChange mlkeyHoldsWrong)

/- THE SECOND FORM. 'bulk': how many values and letters a reading holds, each counted each time it is reached (what is shared counts as often as it is met; a slice's spare places count too). A statement '..UptoSaid' is the law's where the arguments, and the package variables that the reading takes, are together of bulk at most 1048576: NARROWER than '..Said'. Prove '..Said' where nothing that the law and all that it calls make is longer than what came in: it says more and counts as full. Else prove '..UptoSaid'. A law counts once. -/
mutual
def uptoBulk {H : Type} : DataW H → Nat
  | .lit (.string bytes) => bytes.length + 1
  | .lit _ => 1
  | .nil => 1
  | .ptr d => uptoBulk d + 1
  | .slice elems spare => uptoBulkAll elems + uptoBulkAll spare + 1
  | .agg parts => uptoBulkAll parts + 1
  | .iface _ d => uptoBulk d + 1
  | .map entries => uptoBulkEntries entries + 1
  | .held _ => 1
def uptoBulkAll {H : Type} : List (DataW H) → Nat
  | [] => 0
  | d :: r => uptoBulk d + uptoBulkAll r
def uptoBulkEntries {H : Type} : List (Lit × DataW H) → Nat
  | [] => 0
  | x :: r => uptoBulkEntry x + uptoBulkEntries r
def uptoBulkEntry {H : Type} : Lit × DataW H → Nat
  | (.string bytes, d) => bytes.length + uptoBulk d + 1
  | (_, d) => uptoBulk d + 1
 end
def uptoSmall : (H : Type) → List (DataW H) → Bool := fun _ ds => decide (uptoBulkAll ds ≤ 1048576)
def OpenSpec.upto (s : _root_.Go.ChangeSpec) : _root_.Go.OpenSpec := { _root_.Go.OpenSpec.ofChange s with cond := some uptoSmall }

/-- 'sigillaw12.MlkeyBack', WHERE WHAT IT READS IS OF BULK AT MOST 1048576: true; the input reads as it did. -/
def mlkeyBackUptoRow : OpenClaim := { program := "ytlcafjdehcddcaadoor", sum := "f91690a6cd1c91ac8a2d233ba7f9ba78b6f09c591e8ea49320e0833736328765", func := "sigil/sigillaw12.MlkeyBack", spec := "mlkeyBack", unfollowed := true, recurses := true, named := ["sigil/keccak.places"], apart := false, laid := [("sigil/keccak.places", laid_sigil_keccak_places)], narrowed := true }
def MlkeyBackUptoSaid : Prop := mlkeyBackUptoRow.holds Tryd.pinned (OpenSpec.upto mlkeyBackSpec)

/-- 'sigillaw12.MlkeyHolds', WHERE WHAT IT READS IS OF BULK AT MOST 1048576: true; the input reads as it did. -/
def mlkeyHoldsUptoRow : OpenClaim := { program := "ytlcafjdehcddcaadoor", sum := "f91690a6cd1c91ac8a2d233ba7f9ba78b6f09c591e8ea49320e0833736328765", func := "sigil/sigillaw12.MlkeyHolds", spec := "mlkeyHolds", unfollowed := true, recurses := true, named := ["sigil/keccak.places"], apart := false, laid := [("sigil/keccak.places", laid_sigil_keccak_places)], narrowed := true }
def MlkeyHoldsUptoSaid : Prop := mlkeyHoldsUptoRow.holds Tryd.pinned (OpenSpec.upto mlkeyHoldsSpec)

end Rows
end Go.Proofs.YtlcafjdehcddcaaDoor
