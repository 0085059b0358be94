/-
  No cell of these rows narrows 'for every input' (looked for: loops, veiled, ifaces, maps, wideKeys, modest, calm, conditions, laid).
  DERIVED. THE GIVEN ROWS OF THIS SEAT. 4 by the template 'for every input the law returns true; each argument reads behind the call as it read before'; 0 by the template 'total and deterministic' (their statements: YthggakbomlgkhaaTotals.lean).
  GIVEN WITH THE SEED: the statements are not yours to turn. If you find one false, say at which input.
  Laid BY PROGRAM, IN A SANDBOX (cutbox-rows.mjs): the forced cells as the released guide's own fill.sh prints them over the translation 90c5e9d7058ce2d7… (all of the seat's roots in one cut). By AI agents, Wed Nov 11 2026. No macro, syntax, notation, axiom, sorry.
-/
import Derived.Test.YthggakbomlgkhaaChecked
import GoSem.Claim
import GoSem.ClaimJoined
import GoSem.ClaimMapViews
import Derived.JoinedTies
import Derived.KernelRfl
namespace Go.Proofs.Ythggakbomlgkhaa
/- THE CELL 'sum', in the pinned program and in every row, IS THE sha256 OF THE DUMP (.gsa) THAT YthggakbomlgkhaaProg.lean LOADS. Nothing in Lean hashes anything: it is a label: what it is worth is what the hold of that sum in a sandbox is worth. -/
noncomputable def Try.pinned : Pinned := { name := "ythggakbomlgkhaa", sum := "90c5e9d7058ce2d73e9c3c003428a818abb1c0dfe239692d6bec7a404679a9a6", checked := Try.checked }
namespace Rows
def none {H : Type} : Left H := { results := [], args := [] }

/-- 'sigillaw15.AdrsSays': WHATEVER THE INPUT: true; the input reads as it did. -/
def adrsSaysSpec : ChangeSpec := { name := "adrsSays", fn := fun _ => fun
  | [d1, d2, d3] => { results := [.lit (.bool true)], args := [d1, d2, d3] }
  | _ => none }
def adrsSaysRow : OpenClaim := { program := "ythggakbomlgkhaa", sum := "90c5e9d7058ce2d73e9c3c003428a818abb1c0dfe239692d6bec7a404679a9a6", func := "sigil/sigillaw15.AdrsSays", spec := "adrsSays", apart := false }
def AdrsSaysSaid : Prop := adrsSaysRow.holds Try.pinned (OpenSpec.ofChange adrsSaysSpec)

/-- ITS FALSE NEIGHBOUR: 'it returns false'. Refute it at one input. -/
def adrsSaysWrong : ChangeSpec := { name := "adrsSays", fn := fun _ => fun
  | [d1, d2, d3] => { results := [.lit (.bool false)], args := [d1, d2, d3] }
  | _ => none }
def AdrsSaysWrongFalsely : Prop := adrsSaysRow.holds Try.pinned (OpenSpec.ofChange adrsSaysWrong)

/-- 'sigillaw15.AdrsUnlike': WHATEVER THE INPUT: true; the input reads as it did. -/
def adrsUnlikeSpec : ChangeSpec := { name := "adrsUnlike", fn := fun _ => fun
  | [d1, d2] => { results := [.lit (.bool true)], args := [d1, d2] }
  | _ => none }
def adrsUnlikeRow : OpenClaim := { program := "ythggakbomlgkhaa", sum := "90c5e9d7058ce2d73e9c3c003428a818abb1c0dfe239692d6bec7a404679a9a6", func := "sigil/sigillaw15.AdrsUnlike", spec := "adrsUnlike", apart := false }
def AdrsUnlikeSaid : Prop := adrsUnlikeRow.holds Try.pinned (OpenSpec.ofChange adrsUnlikeSpec)

/-- ITS FALSE NEIGHBOUR: 'it returns false'. Refute it at one input. -/
def adrsUnlikeWrong : ChangeSpec := { name := "adrsUnlike", fn := fun _ => fun
  | [d1, d2] => { results := [.lit (.bool false)], args := [d1, d2] }
  | _ => none }
def AdrsUnlikeWrongFalsely : Prop := adrsUnlikeRow.holds Try.pinned (OpenSpec.ofChange adrsUnlikeWrong)

/-- 'sigillaw15.AdrsDigits': WHATEVER THE INPUT: true; the input reads as it did. -/
def adrsDigitsSpec : ChangeSpec := { name := "adrsDigits", fn := fun _ => fun
  | [d1, d2] => { results := [.lit (.bool true)], args := [d1, d2] }
  | _ => none }
def adrsDigitsRow : OpenClaim := { program := "ythggakbomlgkhaa", sum := "90c5e9d7058ce2d73e9c3c003428a818abb1c0dfe239692d6bec7a404679a9a6", func := "sigil/sigillaw15.AdrsDigits", spec := "adrsDigits", apart := false }
def AdrsDigitsSaid : Prop := adrsDigitsRow.holds Try.pinned (OpenSpec.ofChange adrsDigitsSpec)

/-- ITS FALSE NEIGHBOUR: 'it returns false'. Refute it at one input. -/
def adrsDigitsWrong : ChangeSpec := { name := "adrsDigits", fn := fun _ => fun
  | [d1, d2] => { results := [.lit (.bool false)], args := [d1, d2] }
  | _ => none }
def AdrsDigitsWrongFalsely : Prop := adrsDigitsRow.holds Try.pinned (OpenSpec.ofChange adrsDigitsWrong)

/-- 'sigillaw15.AdrsSets': WHATEVER THE INPUT: true; the input reads as it did. -/
def adrsSetsSpec : ChangeSpec := { name := "adrsSets", fn := fun _ => fun
  | [d] => { results := [.lit (.bool true)], args := [d] }
  | _ => none }
def adrsSetsRow : OpenClaim := { program := "ythggakbomlgkhaa", sum := "90c5e9d7058ce2d73e9c3c003428a818abb1c0dfe239692d6bec7a404679a9a6", func := "sigil/sigillaw15.AdrsSets", spec := "adrsSets", apart := false }
def AdrsSetsSaid : Prop := adrsSetsRow.holds Try.pinned (OpenSpec.ofChange adrsSetsSpec)

/-- ITS FALSE NEIGHBOUR: 'it returns false'. Refute it at one input. -/
def adrsSetsWrong : ChangeSpec := { name := "adrsSets", fn := fun _ => fun
  | [d] => { results := [.lit (.bool false)], args := [d] }
  | _ => none }
def AdrsSetsWrongFalsely : Prop := adrsSetsRow.holds Try.pinned (OpenSpec.ofChange adrsSetsWrong)

/- THE SECOND FORM. 'bulk': how many values and letters a reading holds, each counted each time it is reached (what is shared counts as often as it is met; a slice's spare places count too). A statement '..UptoSaid' is the law's where the arguments, and the package variables that the reading takes, are together of bulk at most 1048576: NARROWER than '..Said'. Prove '..Said' where nothing that the law and all that it calls make is longer than what came in: it says more and counts as full. Else prove '..UptoSaid'. A law counts once. -/
mutual
def uptoBulk {H : Type} : DataW H → Nat
  | .lit (.string bytes) => bytes.length + 1
  | .lit _ => 1
  | .nil => 1
  | .ptr d => uptoBulk d + 1
  | .slice elems spare => uptoBulkAll elems + uptoBulkAll spare + 1
  | .agg parts => uptoBulkAll parts + 1
  | .iface _ d => uptoBulk d + 1
  | .map entries => uptoBulkEntries entries + 1
  | .held _ => 1
def uptoBulkAll {H : Type} : List (DataW H) → Nat
  | [] => 0
  | d :: r => uptoBulk d + uptoBulkAll r
def uptoBulkEntries {H : Type} : List (Lit × DataW H) → Nat
  | [] => 0
  | x :: r => uptoBulkEntry x + uptoBulkEntries r
def uptoBulkEntry {H : Type} : Lit × DataW H → Nat
  | (.string bytes, d) => bytes.length + uptoBulk d + 1
  | (_, d) => uptoBulk d + 1
 end
def uptoSmall : (H : Type) → List (DataW H) → Bool := fun _ ds => decide (uptoBulkAll ds ≤ 1048576)
def OpenSpec.upto (s : _root_.Go.ChangeSpec) : _root_.Go.OpenSpec := { _root_.Go.OpenSpec.ofChange s with cond := some uptoSmall }

/-- 'sigillaw15.AdrsSays', WHERE WHAT IT READS IS OF BULK AT MOST 1048576: true; the input reads as it did. -/
def adrsSaysUptoRow : OpenClaim := { program := "ythggakbomlgkhaa", sum := "90c5e9d7058ce2d73e9c3c003428a818abb1c0dfe239692d6bec7a404679a9a6", func := "sigil/sigillaw15.AdrsSays", spec := "adrsSays", apart := false, narrowed := true }
def AdrsSaysUptoSaid : Prop := adrsSaysUptoRow.holds Try.pinned (OpenSpec.upto adrsSaysSpec)

/-- 'sigillaw15.AdrsUnlike', WHERE WHAT IT READS IS OF BULK AT MOST 1048576: true; the input reads as it did. -/
def adrsUnlikeUptoRow : OpenClaim := { program := "ythggakbomlgkhaa", sum := "90c5e9d7058ce2d73e9c3c003428a818abb1c0dfe239692d6bec7a404679a9a6", func := "sigil/sigillaw15.AdrsUnlike", spec := "adrsUnlike", apart := false, narrowed := true }
def AdrsUnlikeUptoSaid : Prop := adrsUnlikeUptoRow.holds Try.pinned (OpenSpec.upto adrsUnlikeSpec)

/-- 'sigillaw15.AdrsDigits', WHERE WHAT IT READS IS OF BULK AT MOST 1048576: true; the input reads as it did. -/
def adrsDigitsUptoRow : OpenClaim := { program := "ythggakbomlgkhaa", sum := "90c5e9d7058ce2d73e9c3c003428a818abb1c0dfe239692d6bec7a404679a9a6", func := "sigil/sigillaw15.AdrsDigits", spec := "adrsDigits", apart := false, narrowed := true }
def AdrsDigitsUptoSaid : Prop := adrsDigitsUptoRow.holds Try.pinned (OpenSpec.upto adrsDigitsSpec)

/-- 'sigillaw15.AdrsSets', WHERE WHAT IT READS IS OF BULK AT MOST 1048576: true; the input reads as it did. -/
def adrsSetsUptoRow : OpenClaim := { program := "ythggakbomlgkhaa", sum := "90c5e9d7058ce2d73e9c3c003428a818abb1c0dfe239692d6bec7a404679a9a6", func := "sigil/sigillaw15.AdrsSets", spec := "adrsSets", apart := false, narrowed := true }
def AdrsSetsUptoSaid : Prop := adrsSetsUptoRow.holds Try.pinned (OpenSpec.upto adrsSetsSpec)

end Rows
end Go.Proofs.Ythggakbomlgkhaa
