/-
  NARROWER THAN 'FOR EVERY INPUT', by the rows' own cells (each row's printed sentence says how): MlverifySays: laid · MlverifyTakes: laid · MlverifyForms: laid.
  DERIVED. THE GIVEN ROWS OF THIS SEAT. 3 by the template 'for every input the law returns true; each argument reads behind the call as it read before'; 0 by the template 'total and deterministic' (their statements: YtomphjajkkddkaaGreatDoorTotals.lean).
  GIVEN WITH THE SEED: the statements are not yours to turn. If you find one false, say at which input.
  Laid BY PROGRAM, IN A SANDBOX (cutbox-rows.mjs): the forced cells as the released guide's own fill.sh prints them over the translation 1b1f37aef8d0cfa9… (all of the seat's roots in one cut). By AI agents, Wed Nov 11 2026. No macro, syntax, notation, axiom, sorry.
-/
import Derived.Test.YtomphjajkkddkaaGreatDoorChecked
import GoSem.PinnedTables
import GoSem.Claim
import GoSem.ClaimJoined
import GoSem.ClaimMapViews
import Derived.JoinedTies
import Derived.KernelRfl
namespace Go.Proofs.YtomphjajkkddkaaGreatDoor
/- THE CELL 'sum', in the pinned program and in every row, IS THE sha256 OF THE DUMP (.gsa) THAT YtomphjajkkddkaaGreatDoorProg.lean LOADS. Nothing in Lean hashes anything: it is a label: what it is worth is what the hold of that sum in a sandbox is worth. -/
noncomputable def Tryz.pinned : Pinned := { name := "ytomphjajkkddkaagreatdoor", sum := "1b1f37aef8d0cfa940a35ab9b701348f153fddfd630f97048c82181bf047a179", checked := Tryz.checked }
namespace Rows
def none {H : Type} : Left H := { results := [], args := [] }

/- WHAT THE LISTED PACKAGE-LEVEL VARIABLES READ AS WHEN THE CALL BEGINS. Each datum BY PROGRAM (the guide's laid-datum.mjs) off the statement by which the dump's own 'gosem.cut.vars' lays the variable. In a bare row this is a premise. The card (YtomphjajkkddkaaGreatDoorCards.lean) ties it to the program's text. -/
def laid_sigil_keccak_places {H : Type} : DataW H := .agg [.lit (.int .i64 0), .lit (.int .i64 10), .lit (.int .i64 20), .lit (.int .i64 5), .lit (.int .i64 15), .lit (.int .i64 16), .lit (.int .i64 1), .lit (.int .i64 11), .lit (.int .i64 21), .lit (.int .i64 6), .lit (.int .i64 7), .lit (.int .i64 17), .lit (.int .i64 2), .lit (.int .i64 12), .lit (.int .i64 22), .lit (.int .i64 23), .lit (.int .i64 8), .lit (.int .i64 18), .lit (.int .i64 3), .lit (.int .i64 13), .lit (.int .i64 14), .lit (.int .i64 24), .lit (.int .i64 9), .lit (.int .i64 19), .lit (.int .i64 4)]
def laid_unicode_utf8_acceptRanges {H : Type} : DataW H := .agg [.agg [.lit (.int .u8 128), .lit (.int .u8 191)], .agg [.lit (.int .u8 160), .lit (.int .u8 191)], .agg [.lit (.int .u8 128), .lit (.int .u8 159)], .agg [.lit (.int .u8 144), .lit (.int .u8 191)], .agg [.lit (.int .u8 128), .lit (.int .u8 143)], .agg [.lit (.int .u8 0), .lit (.int .u8 0)], .agg [.lit (.int .u8 0), .lit (.int .u8 0)], .agg [.lit (.int .u8 0), .lit (.int .u8 0)], .agg [.lit (.int .u8 0), .lit (.int .u8 0)], .agg [.lit (.int .u8 0), .lit (.int .u8 0)], .agg [.lit (.int .u8 0), .lit (.int .u8 0)], .agg [.lit (.int .u8 0), .lit (.int .u8 0)], .agg [.lit (.int .u8 0), .lit (.int .u8 0)], .agg [.lit (.int .u8 0), .lit (.int .u8 0)], .agg [.lit (.int .u8 0), .lit (.int .u8 0)], .agg [.lit (.int .u8 0), .lit (.int .u8 0)]]
/-- One of Go's own tables, pinned by name: the form's constant. -/
def laid_unicode_utf8_first : DataW Unit := Go.Pinned.utf8First

/-- 'sigillaw14.MlverifySays': WHATEVER THE INPUT: true; the input reads as it did. -/
def mlverifySaysSpec : ChangeSpec := { name := "mlverifySays", fn := fun _ => fun
  | [d1, d2, d3] => { results := [.lit (.bool true)], args := [d1, d2, d3] }
  | _ => none }
def mlverifySaysRow : OpenClaim := { program := "ytomphjajkkddkaagreatdoor", sum := "1b1f37aef8d0cfa940a35ab9b701348f153fddfd630f97048c82181bf047a179", func := "sigil/sigillaw14.MlverifySays", spec := "mlverifySays", inPlace := ["internal/abi.NoEscape", "internal/bytealg.MakeNoZero", "internal/bytealg.IndexByteString", "internal/bytealg.IndexString"], unfollowed := true, recurses := true, named := ["sigil/keccak.places", "unicode/utf8.first", "unicode/utf8.acceptRanges", "internal/bytealg.MaxLen"], apart := false, laid := [("sigil/keccak.places", laid_sigil_keccak_places), ("unicode/utf8.acceptRanges", laid_unicode_utf8_acceptRanges), ("unicode/utf8.first", laid_unicode_utf8_first)] }
def MlverifySaysSaid : Prop := mlverifySaysRow.holds Tryz.pinned (OpenSpec.ofChange mlverifySaysSpec)

/-- ITS FALSE NEIGHBOUR: 'it returns false'. Refute it at one input. -/
def mlverifySaysWrong : ChangeSpec := { name := "mlverifySays", fn := fun _ => fun
  | [d1, d2, d3] => { results := [.lit (.bool false)], args := [d1, d2, d3] }
  | _ => none }
def MlverifySaysWrongFalsely : Prop := mlverifySaysRow.holds Tryz.pinned (OpenSpec.ofChange mlverifySaysWrong)

/-- 'sigillaw14.MlverifyTakes': WHATEVER THE INPUT: true; the input reads as it did. -/
def mlverifyTakesSpec : ChangeSpec := { name := "mlverifyTakes", fn := fun _ => fun
  | [d1, d2, d3] => { results := [.lit (.bool true)], args := [d1, d2, d3] }
  | _ => none }
def mlverifyTakesRow : OpenClaim := { program := "ytomphjajkkddkaagreatdoor", sum := "1b1f37aef8d0cfa940a35ab9b701348f153fddfd630f97048c82181bf047a179", func := "sigil/sigillaw14.MlverifyTakes", spec := "mlverifyTakes", inPlace := ["internal/abi.NoEscape", "internal/bytealg.MakeNoZero", "internal/bytealg.IndexByteString", "internal/bytealg.IndexString"], unfollowed := true, recurses := true, named := ["sigil/keccak.places", "unicode/utf8.first", "unicode/utf8.acceptRanges", "internal/bytealg.MaxLen"], apart := false, laid := [("sigil/keccak.places", laid_sigil_keccak_places), ("unicode/utf8.acceptRanges", laid_unicode_utf8_acceptRanges), ("unicode/utf8.first", laid_unicode_utf8_first)] }
def MlverifyTakesSaid : Prop := mlverifyTakesRow.holds Tryz.pinned (OpenSpec.ofChange mlverifyTakesSpec)

/-- ITS FALSE NEIGHBOUR: 'it returns false'. Refute it at one input. -/
def mlverifyTakesWrong : ChangeSpec := { name := "mlverifyTakes", fn := fun _ => fun
  | [d1, d2, d3] => { results := [.lit (.bool false)], args := [d1, d2, d3] }
  | _ => none }
def MlverifyTakesWrongFalsely : Prop := mlverifyTakesRow.holds Tryz.pinned (OpenSpec.ofChange mlverifyTakesWrong)

/-- 'sigillaw14.MlverifyForms': WHATEVER THE INPUT: true; the input reads as it did. -/
def mlverifyFormsSpec : ChangeSpec := { name := "mlverifyForms", fn := fun _ => fun
  | [d1, d2, d3] => { results := [.lit (.bool true)], args := [d1, d2, d3] }
  | _ => none }
def mlverifyFormsRow : OpenClaim := { program := "ytomphjajkkddkaagreatdoor", sum := "1b1f37aef8d0cfa940a35ab9b701348f153fddfd630f97048c82181bf047a179", func := "sigil/sigillaw14.MlverifyForms", spec := "mlverifyForms", inPlace := ["internal/abi.NoEscape", "internal/bytealg.MakeNoZero", "internal/bytealg.IndexByteString", "internal/bytealg.IndexString"], unfollowed := true, recurses := true, named := ["sigil/keccak.places", "unicode/utf8.first", "unicode/utf8.acceptRanges", "internal/bytealg.MaxLen"], apart := false, laid := [("sigil/keccak.places", laid_sigil_keccak_places), ("unicode/utf8.acceptRanges", laid_unicode_utf8_acceptRanges), ("unicode/utf8.first", laid_unicode_utf8_first)] }
def MlverifyFormsSaid : Prop := mlverifyFormsRow.holds Tryz.pinned (OpenSpec.ofChange mlverifyFormsSpec)

/-- ITS FALSE NEIGHBOUR: 'it returns false'. Refute it at one input. -/
def mlverifyFormsWrong : ChangeSpec := { name := "mlverifyForms", fn := fun _ => fun
  | [d1, d2, d3] => { results := [.lit (.bool false)], args := [d1, d2, d3] }
  | _ => none }
def MlverifyFormsWrongFalsely : Prop := mlverifyFormsRow.holds Tryz.pinned (OpenSpec.ofChange mlverifyFormsWrong)

/- THE SECOND FORM. 'bulk': how many values and letters a reading holds, each counted each time it is reached (what is shared counts as often as it is met; a slice's spare places count too). A statement '..UptoSaid' is the law's where the arguments, and the package variables that the reading takes, are together of bulk at most 1048576: NARROWER than '..Said'. Prove '..Said' where nothing that the law and all that it calls make is longer than what came in: it says more and counts as full. Else prove '..UptoSaid'. A law counts once. -/
mutual
def uptoBulk {H : Type} : DataW H → Nat
  | .lit (.string bytes) => bytes.length + 1
  | .lit _ => 1
  | .nil => 1
  | .ptr d => uptoBulk d + 1
  | .slice elems spare => uptoBulkAll elems + uptoBulkAll spare + 1
  | .agg parts => uptoBulkAll parts + 1
  | .iface _ d => uptoBulk d + 1
  | .map entries => uptoBulkEntries entries + 1
  | .held _ => 1
def uptoBulkAll {H : Type} : List (DataW H) → Nat
  | [] => 0
  | d :: r => uptoBulk d + uptoBulkAll r
def uptoBulkEntries {H : Type} : List (Lit × DataW H) → Nat
  | [] => 0
  | x :: r => uptoBulkEntry x + uptoBulkEntries r
def uptoBulkEntry {H : Type} : Lit × DataW H → Nat
  | (.string bytes, d) => bytes.length + uptoBulk d + 1
  | (_, d) => uptoBulk d + 1
 end
def uptoSmall : (H : Type) → List (DataW H) → Bool := fun _ ds => decide (uptoBulkAll ds ≤ 1048576)
def OpenSpec.upto (s : _root_.Go.ChangeSpec) : _root_.Go.OpenSpec := { _root_.Go.OpenSpec.ofChange s with cond := some uptoSmall }

/-- 'sigillaw14.MlverifySays', WHERE WHAT IT READS IS OF BULK AT MOST 1048576: true; the input reads as it did. -/
def mlverifySaysUptoRow : OpenClaim := { program := "ytomphjajkkddkaagreatdoor", sum := "1b1f37aef8d0cfa940a35ab9b701348f153fddfd630f97048c82181bf047a179", func := "sigil/sigillaw14.MlverifySays", spec := "mlverifySays", inPlace := ["internal/abi.NoEscape", "internal/bytealg.MakeNoZero", "internal/bytealg.IndexByteString", "internal/bytealg.IndexString"], unfollowed := true, recurses := true, named := ["sigil/keccak.places", "unicode/utf8.first", "unicode/utf8.acceptRanges", "internal/bytealg.MaxLen"], apart := false, laid := [("sigil/keccak.places", laid_sigil_keccak_places), ("unicode/utf8.acceptRanges", laid_unicode_utf8_acceptRanges), ("unicode/utf8.first", laid_unicode_utf8_first)], narrowed := true }
def MlverifySaysUptoSaid : Prop := mlverifySaysUptoRow.holds Tryz.pinned (OpenSpec.upto mlverifySaysSpec)

/-- 'sigillaw14.MlverifyTakes', WHERE WHAT IT READS IS OF BULK AT MOST 1048576: true; the input reads as it did. -/
def mlverifyTakesUptoRow : OpenClaim := { program := "ytomphjajkkddkaagreatdoor", sum := "1b1f37aef8d0cfa940a35ab9b701348f153fddfd630f97048c82181bf047a179", func := "sigil/sigillaw14.MlverifyTakes", spec := "mlverifyTakes", inPlace := ["internal/abi.NoEscape", "internal/bytealg.MakeNoZero", "internal/bytealg.IndexByteString", "internal/bytealg.IndexString"], unfollowed := true, recurses := true, named := ["sigil/keccak.places", "unicode/utf8.first", "unicode/utf8.acceptRanges", "internal/bytealg.MaxLen"], apart := false, laid := [("sigil/keccak.places", laid_sigil_keccak_places), ("unicode/utf8.acceptRanges", laid_unicode_utf8_acceptRanges), ("unicode/utf8.first", laid_unicode_utf8_first)], narrowed := true }
def MlverifyTakesUptoSaid : Prop := mlverifyTakesUptoRow.holds Tryz.pinned (OpenSpec.upto mlverifyTakesSpec)

/-- 'sigillaw14.MlverifyForms', WHERE WHAT IT READS IS OF BULK AT MOST 1048576: true; the input reads as it did. -/
def mlverifyFormsUptoRow : OpenClaim := { program := "ytomphjajkkddkaagreatdoor", sum := "1b1f37aef8d0cfa940a35ab9b701348f153fddfd630f97048c82181bf047a179", func := "sigil/sigillaw14.MlverifyForms", spec := "mlverifyForms", inPlace := ["internal/abi.NoEscape", "internal/bytealg.MakeNoZero", "internal/bytealg.IndexByteString", "internal/bytealg.IndexString"], unfollowed := true, recurses := true, named := ["sigil/keccak.places", "unicode/utf8.first", "unicode/utf8.acceptRanges", "internal/bytealg.MaxLen"], apart := false, laid := [("sigil/keccak.places", laid_sigil_keccak_places), ("unicode/utf8.acceptRanges", laid_unicode_utf8_acceptRanges), ("unicode/utf8.first", laid_unicode_utf8_first)], narrowed := true }
def MlverifyFormsUptoSaid : Prop := mlverifyFormsUptoRow.holds Tryz.pinned (OpenSpec.upto mlverifyFormsSpec)

end Rows
end Go.Proofs.YtomphjajkkddkaaGreatDoor
