/-
  NARROWER THAN 'FOR EVERY INPUT', by the rows' own cells (each row's printed sentence says how): MlsignSays: laid · MlsignSizes: laid · MlsignMessage: laid.
  DERIVED. THE GIVEN ROWS OF THIS SEAT. 3 by the template 'for every input the law returns true; each argument reads behind the call as it read before'; 0 by the template 'total and deterministic' (their statements: YtgahcabgmfbhdaaGreatDoorTotals.lean).
  GIVEN WITH THE SEED: the statements are not yours to turn. If you find one false, say at which input.
  Laid BY PROGRAM, IN A SANDBOX (cutbox-rows.mjs): the forced cells as the released guide's own fill.sh prints them over the translation 72201c73836d5042… (all of the seat's roots in one cut). By AI agents, Wed Nov 11 2026. No macro, syntax, notation, axiom, sorry.
-/
import Derived.Test.YtgahcabgmfbhdaaGreatDoorChecked
import GoSem.Claim
import GoSem.ClaimJoined
import GoSem.ClaimMapViews
import Derived.JoinedTies
import Derived.KernelRfl
namespace Go.Proofs.YtgahcabgmfbhdaaGreatDoor
/- THE CELL 'sum', in the pinned program and in every row, IS THE sha256 OF THE DUMP (.gsa) THAT YtgahcabgmfbhdaaGreatDoorProg.lean LOADS. Nothing in Lean hashes anything: it is a label: what it is worth is what the hold of that sum in a sandbox is worth. -/
noncomputable def Tryz.pinned : Pinned := { name := "ytgahcabgmfbhdaagreatdoor", sum := "72201c73836d50423228827bec8ab3d12ef853c35de6cfae28007cd26aea38e1", checked := Tryz.checked }
namespace Rows
def none {H : Type} : Left H := { results := [], args := [] }

/- WHAT THE LISTED PACKAGE-LEVEL VARIABLES READ AS WHEN THE CALL BEGINS. Each datum BY PROGRAM (the guide's laid-datum.mjs) off the statement by which the dump's own 'gosem.cut.vars' lays the variable. In a bare row this is a premise. The card (YtgahcabgmfbhdaaGreatDoorCards.lean) ties it to the program's text. -/
def laid_sigil_keccak_places {H : Type} : DataW H := .agg [.lit (.int .i64 0), .lit (.int .i64 10), .lit (.int .i64 20), .lit (.int .i64 5), .lit (.int .i64 15), .lit (.int .i64 16), .lit (.int .i64 1), .lit (.int .i64 11), .lit (.int .i64 21), .lit (.int .i64 6), .lit (.int .i64 7), .lit (.int .i64 17), .lit (.int .i64 2), .lit (.int .i64 12), .lit (.int .i64 22), .lit (.int .i64 23), .lit (.int .i64 8), .lit (.int .i64 18), .lit (.int .i64 3), .lit (.int .i64 13), .lit (.int .i64 14), .lit (.int .i64 24), .lit (.int .i64 9), .lit (.int .i64 19), .lit (.int .i64 4)]

/-- 'sigillaw13.MlsignSays': WHATEVER THE INPUT: true; the input reads as it did. -/
def mlsignSaysSpec : ChangeSpec := { name := "mlsignSays", fn := fun _ => fun
  | [d1, d2, d3] => { results := [.lit (.bool true)], args := [d1, d2, d3] }
  | _ => none }
def mlsignSaysRow : OpenClaim := { program := "ytgahcabgmfbhdaagreatdoor", sum := "72201c73836d50423228827bec8ab3d12ef853c35de6cfae28007cd26aea38e1", func := "sigil/sigillaw13.MlsignSays", spec := "mlsignSays", inPlace := ["internal/abi.NoEscape", "internal/bytealg.MakeNoZero"], unfollowed := true, recurses := true, named := ["sigil/keccak.places"], apart := false, laid := [("sigil/keccak.places", laid_sigil_keccak_places)] }
def MlsignSaysSaid : Prop := mlsignSaysRow.holds Tryz.pinned (OpenSpec.ofChange mlsignSaysSpec)

/-- ITS FALSE NEIGHBOUR: 'it returns false'. Refute it at one input. -/
def mlsignSaysWrong : ChangeSpec := { name := "mlsignSays", fn := fun _ => fun
  | [d1, d2, d3] => { results := [.lit (.bool false)], args := [d1, d2, d3] }
  | _ => none }
def MlsignSaysWrongFalsely : Prop := mlsignSaysRow.holds Tryz.pinned (OpenSpec.ofChange mlsignSaysWrong)

/-- 'sigillaw13.MlsignSizes': WHATEVER THE INPUT: true; the input reads as it did. -/
def mlsignSizesSpec : ChangeSpec := { name := "mlsignSizes", fn := fun _ => fun
  | [d1, d2, d3] => { results := [.lit (.bool true)], args := [d1, d2, d3] }
  | _ => none }
def mlsignSizesRow : OpenClaim := { program := "ytgahcabgmfbhdaagreatdoor", sum := "72201c73836d50423228827bec8ab3d12ef853c35de6cfae28007cd26aea38e1", func := "sigil/sigillaw13.MlsignSizes", spec := "mlsignSizes", inPlace := ["internal/abi.NoEscape", "internal/bytealg.MakeNoZero"], unfollowed := true, recurses := true, named := ["sigil/keccak.places"], apart := false, laid := [("sigil/keccak.places", laid_sigil_keccak_places)] }
def MlsignSizesSaid : Prop := mlsignSizesRow.holds Tryz.pinned (OpenSpec.ofChange mlsignSizesSpec)

/-- ITS FALSE NEIGHBOUR: 'it returns false'. Refute it at one input. -/
def mlsignSizesWrong : ChangeSpec := { name := "mlsignSizes", fn := fun _ => fun
  | [d1, d2, d3] => { results := [.lit (.bool false)], args := [d1, d2, d3] }
  | _ => none }
def MlsignSizesWrongFalsely : Prop := mlsignSizesRow.holds Tryz.pinned (OpenSpec.ofChange mlsignSizesWrong)

/-- 'sigillaw13.MlsignMessage': WHATEVER THE INPUT: true; the input reads as it did. -/
def mlsignMessageSpec : ChangeSpec := { name := "mlsignMessage", fn := fun _ => fun
  | [d1, d2] => { results := [.lit (.bool true)], args := [d1, d2] }
  | _ => none }
def mlsignMessageRow : OpenClaim := { program := "ytgahcabgmfbhdaagreatdoor", sum := "72201c73836d50423228827bec8ab3d12ef853c35de6cfae28007cd26aea38e1", func := "sigil/sigillaw13.MlsignMessage", spec := "mlsignMessage", inPlace := ["internal/abi.NoEscape", "internal/bytealg.MakeNoZero"], unfollowed := true, recurses := true, named := ["sigil/keccak.places"], apart := false, laid := [("sigil/keccak.places", laid_sigil_keccak_places)] }
def MlsignMessageSaid : Prop := mlsignMessageRow.holds Tryz.pinned (OpenSpec.ofChange mlsignMessageSpec)

/-- ITS FALSE NEIGHBOUR: 'it returns false'. Refute it at one input. -/
def mlsignMessageWrong : ChangeSpec := { name := "mlsignMessage", fn := fun _ => fun
  | [d1, d2] => { results := [.lit (.bool false)], args := [d1, d2] }
  | _ => none }
def MlsignMessageWrongFalsely : Prop := mlsignMessageRow.holds Tryz.pinned (OpenSpec.ofChange mlsignMessageWrong)

/- THE SECOND FORM. 'bulk': how many values and letters a reading holds, each counted each time it is reached (what is shared counts as often as it is met; a slice's spare places count too). A statement '..UptoSaid' is the law's where the arguments, and the package variables that the reading takes, are together of bulk at most 1048576: NARROWER than '..Said'. Prove '..Said' where nothing that the law and all that it calls make is longer than what came in: it says more and counts as full. Else prove '..UptoSaid'. A law counts once. -/
mutual
def uptoBulk {H : Type} : DataW H → Nat
  | .lit (.string bytes) => bytes.length + 1
  | .lit _ => 1
  | .nil => 1
  | .ptr d => uptoBulk d + 1
  | .slice elems spare => uptoBulkAll elems + uptoBulkAll spare + 1
  | .agg parts => uptoBulkAll parts + 1
  | .iface _ d => uptoBulk d + 1
  | .map entries => uptoBulkEntries entries + 1
  | .held _ => 1
def uptoBulkAll {H : Type} : List (DataW H) → Nat
  | [] => 0
  | d :: r => uptoBulk d + uptoBulkAll r
def uptoBulkEntries {H : Type} : List (Lit × DataW H) → Nat
  | [] => 0
  | x :: r => uptoBulkEntry x + uptoBulkEntries r
def uptoBulkEntry {H : Type} : Lit × DataW H → Nat
  | (.string bytes, d) => bytes.length + uptoBulk d + 1
  | (_, d) => uptoBulk d + 1
 end
def uptoSmall : (H : Type) → List (DataW H) → Bool := fun _ ds => decide (uptoBulkAll ds ≤ 1048576)
def OpenSpec.upto (s : _root_.Go.ChangeSpec) : _root_.Go.OpenSpec := { _root_.Go.OpenSpec.ofChange s with cond := some uptoSmall }

/-- 'sigillaw13.MlsignSays', WHERE WHAT IT READS IS OF BULK AT MOST 1048576: true; the input reads as it did. -/
def mlsignSaysUptoRow : OpenClaim := { program := "ytgahcabgmfbhdaagreatdoor", sum := "72201c73836d50423228827bec8ab3d12ef853c35de6cfae28007cd26aea38e1", func := "sigil/sigillaw13.MlsignSays", spec := "mlsignSays", inPlace := ["internal/abi.NoEscape", "internal/bytealg.MakeNoZero"], unfollowed := true, recurses := true, named := ["sigil/keccak.places"], apart := false, laid := [("sigil/keccak.places", laid_sigil_keccak_places)], narrowed := true }
def MlsignSaysUptoSaid : Prop := mlsignSaysUptoRow.holds Tryz.pinned (OpenSpec.upto mlsignSaysSpec)

/-- 'sigillaw13.MlsignSizes', WHERE WHAT IT READS IS OF BULK AT MOST 1048576: true; the input reads as it did. -/
def mlsignSizesUptoRow : OpenClaim := { program := "ytgahcabgmfbhdaagreatdoor", sum := "72201c73836d50423228827bec8ab3d12ef853c35de6cfae28007cd26aea38e1", func := "sigil/sigillaw13.MlsignSizes", spec := "mlsignSizes", inPlace := ["internal/abi.NoEscape", "internal/bytealg.MakeNoZero"], unfollowed := true, recurses := true, named := ["sigil/keccak.places"], apart := false, laid := [("sigil/keccak.places", laid_sigil_keccak_places)], narrowed := true }
def MlsignSizesUptoSaid : Prop := mlsignSizesUptoRow.holds Tryz.pinned (OpenSpec.upto mlsignSizesSpec)

/-- 'sigillaw13.MlsignMessage', WHERE WHAT IT READS IS OF BULK AT MOST 1048576: true; the input reads as it did. -/
def mlsignMessageUptoRow : OpenClaim := { program := "ytgahcabgmfbhdaagreatdoor", sum := "72201c73836d50423228827bec8ab3d12ef853c35de6cfae28007cd26aea38e1", func := "sigil/sigillaw13.MlsignMessage", spec := "mlsignMessage", inPlace := ["internal/abi.NoEscape", "internal/bytealg.MakeNoZero"], unfollowed := true, recurses := true, named := ["sigil/keccak.places"], apart := false, laid := [("sigil/keccak.places", laid_sigil_keccak_places)], narrowed := true }
def MlsignMessageUptoSaid : Prop := mlsignMessageUptoRow.holds Tryz.pinned (OpenSpec.upto mlsignMessageSpec)

end Rows
end Go.Proofs.YtgahcabgmfbhdaaGreatDoor
