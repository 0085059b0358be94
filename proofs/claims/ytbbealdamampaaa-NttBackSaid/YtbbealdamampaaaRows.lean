/-
  No cell of these rows narrows 'for every input' (looked for: loops, veiled, ifaces, maps, wideKeys, modest, calm, conditions, laid).
  DERIVED. THE GIVEN ROWS OF THIS SEAT. 2 by the template 'for every input the law returns true; each argument reads behind the call as it read before'; 0 by the template 'total and deterministic' (their statements: YtbbealdamampaaaTotals.lean).
  GIVEN WITH THE SEED: the statements are not yours to turn. If you find one false, say at which input.
  Laid BY PROGRAM, IN A SANDBOX (cutbox-rows.mjs): the forced cells as the released guide's own fill.sh prints them over the translation 99cab95ac7e19e12… (all of the seat's roots in one cut). By AI agents, Wed Nov 11 2026. No macro, syntax, notation, axiom, sorry.
-/
import Derived.Test.YtbbealdamampaaaChecked
import GoSem.Claim
import GoSem.ClaimJoined
import GoSem.ClaimMapViews
import Derived.JoinedTies
import Derived.KernelRfl
namespace Go.Proofs.Ytbbealdamampaaa
/- THE CELL 'sum', in the pinned program and in every row, IS THE sha256 OF THE DUMP (.gsa) THAT YtbbealdamampaaaProg.lean LOADS. Nothing in Lean hashes anything: it is a label: what it is worth is what the hold of that sum in a sandbox is worth. -/
noncomputable def Try.pinned : Pinned := { name := "ytbbealdamampaaa", sum := "99cab95ac7e19e12615095bb5e732dfd81775d1ebf69cbcd1bbe537f90cc2b20", checked := Try.checked }
namespace Rows
def none {H : Type} : Left H := { results := [], args := [] }

/-- 'sigillaw08.NttBack': WHATEVER THE INPUT: true; the input reads as it did. -/
def nttBackSpec : ChangeSpec := { name := "nttBack", fn := fun _ => fun
  | [d] => { results := [.lit (.bool true)], args := [d] }
  | _ => none }
def nttBackRow : OpenClaim := { program := "ytbbealdamampaaa", sum := "99cab95ac7e19e12615095bb5e732dfd81775d1ebf69cbcd1bbe537f90cc2b20", func := "sigil/sigillaw08.NttBack", spec := "nttBack", apart := false }
def NttBackSaid : Prop := nttBackRow.holds Try.pinned (OpenSpec.ofChange nttBackSpec)

/-- ITS FALSE NEIGHBOUR: 'it returns false'. Refute it at one input. -/
def nttBackWrong : ChangeSpec := { name := "nttBack", fn := fun _ => fun
  | [d] => { results := [.lit (.bool false)], args := [d] }
  | _ => none }
def NttBackWrongFalsely : Prop := nttBackRow.holds Try.pinned (OpenSpec.ofChange nttBackWrong)

/-- 'sigillaw08.NttProduct': WHATEVER THE INPUT: true; the input reads as it did. -/
def nttProductSpec : ChangeSpec := { name := "nttProduct", fn := fun _ => fun
  | [d1, d2] => { results := [.lit (.bool true)], args := [d1, d2] }
  | _ => none }
def nttProductRow : OpenClaim := { program := "ytbbealdamampaaa", sum := "99cab95ac7e19e12615095bb5e732dfd81775d1ebf69cbcd1bbe537f90cc2b20", func := "sigil/sigillaw08.NttProduct", spec := "nttProduct", apart := false }
def NttProductSaid : Prop := nttProductRow.holds Try.pinned (OpenSpec.ofChange nttProductSpec)

/-- ITS FALSE NEIGHBOUR: 'it returns false'. Refute it at one input. -/
def nttProductWrong : ChangeSpec := { name := "nttProduct", fn := fun _ => fun
  | [d1, d2] => { results := [.lit (.bool false)], args := [d1, d2] }
  | _ => none }
def NttProductWrongFalsely : Prop := nttProductRow.holds Try.pinned (OpenSpec.ofChange nttProductWrong)

/- THE SECOND FORM. 'bulk': how many values and letters a reading holds, each counted each time it is reached (what is shared counts as often as it is met; a slice's spare places count too). A statement '..UptoSaid' is the law's where the arguments, and the package variables that the reading takes, are together of bulk at most 1048576: NARROWER than '..Said'. Prove '..Said' where nothing that the law and all that it calls make is longer than what came in: it says more and counts as full. Else prove '..UptoSaid'. A law counts once. -/
mutual
def uptoBulk {H : Type} : DataW H → Nat
  | .lit (.string bytes) => bytes.length + 1
  | .lit _ => 1
  | .nil => 1
  | .ptr d => uptoBulk d + 1
  | .slice elems spare => uptoBulkAll elems + uptoBulkAll spare + 1
  | .agg parts => uptoBulkAll parts + 1
  | .iface _ d => uptoBulk d + 1
  | .map entries => uptoBulkEntries entries + 1
  | .held _ => 1
def uptoBulkAll {H : Type} : List (DataW H) → Nat
  | [] => 0
  | d :: r => uptoBulk d + uptoBulkAll r
def uptoBulkEntries {H : Type} : List (Lit × DataW H) → Nat
  | [] => 0
  | x :: r => uptoBulkEntry x + uptoBulkEntries r
def uptoBulkEntry {H : Type} : Lit × DataW H → Nat
  | (.string bytes, d) => bytes.length + uptoBulk d + 1
  | (_, d) => uptoBulk d + 1
 end
def uptoSmall : (H : Type) → List (DataW H) → Bool := fun _ ds => decide (uptoBulkAll ds ≤ 1048576)
def OpenSpec.upto (s : _root_.Go.ChangeSpec) : _root_.Go.OpenSpec := { _root_.Go.OpenSpec.ofChange s with cond := some uptoSmall }

/-- 'sigillaw08.NttBack', WHERE WHAT IT READS IS OF BULK AT MOST 1048576: true; the input reads as it did. -/
def nttBackUptoRow : OpenClaim := { program := "ytbbealdamampaaa", sum := "99cab95ac7e19e12615095bb5e732dfd81775d1ebf69cbcd1bbe537f90cc2b20", func := "sigil/sigillaw08.NttBack", spec := "nttBack", apart := false, narrowed := true }
def NttBackUptoSaid : Prop := nttBackUptoRow.holds Try.pinned (OpenSpec.upto nttBackSpec)

/-- 'sigillaw08.NttProduct', WHERE WHAT IT READS IS OF BULK AT MOST 1048576: true; the input reads as it did. -/
def nttProductUptoRow : OpenClaim := { program := "ytbbealdamampaaa", sum := "99cab95ac7e19e12615095bb5e732dfd81775d1ebf69cbcd1bbe537f90cc2b20", func := "sigil/sigillaw08.NttProduct", spec := "nttProduct", apart := false, narrowed := true }
def NttProductUptoSaid : Prop := nttProductUptoRow.holds Try.pinned (OpenSpec.upto nttProductSpec)

end Rows
end Go.Proofs.Ytbbealdamampaaa
