/-
  No cell of these rows narrows 'for every input' (looked for: loops, veiled, ifaces, maps, wideKeys, modest, calm, conditions, laid).
  DERIVED. THE GIVEN ROWS OF THIS SEAT. 5 by the template 'for every input the law returns true; each argument reads behind the call as it read before'; 0 by the template 'total and deterministic' (their statements: YtdmepbjcnnggaaaTotals.lean).
  GIVEN WITH THE SEED: the statements are not yours to turn. If you find one false, say at which input.
  Laid BY PROGRAM, IN A SANDBOX (cutbox-rows.mjs): the forced cells as the released guide's own fill.sh prints them over the translation acae8719358e5131… (all of the seat's roots in one cut). By AI agents, Wed Nov 11 2026. No macro, syntax, notation, axiom, sorry.
-/
import Derived.Test.YtdmepbjcnnggaaaChecked
import GoSem.Claim
import GoSem.ClaimJoined
import GoSem.ClaimMapViews
import Derived.JoinedTies
import Derived.KernelRfl
namespace Go.Proofs.Ytdmepbjcnnggaaa
/- THE CELL 'sum', in the pinned program and in every row, IS THE sha256 OF THE DUMP (.gsa) THAT YtdmepbjcnnggaaaProg.lean LOADS. Nothing in Lean hashes anything: it is a label: what it is worth is what the hold of that sum in a sandbox is worth. -/
noncomputable def Try.pinned : Pinned := { name := "ytdmepbjcnnggaaa", sum := "acae8719358e5131f89b5c2693f42e13dfaf94728ba03daa99eaa02cd2dac729", checked := Try.checked }
namespace Rows
def none {H : Type} : Left H := { results := [], args := [] }

/-- 'sigillaw02.TablesSay': WHATEVER THE INPUT: true; the input reads as it did. -/
def tablesSaySpec : ChangeSpec := { name := "tablesSay", fn := fun _ => fun
  | [d] => { results := [.lit (.bool true)], args := [d] }
  | _ => none }
def tablesSayRow : OpenClaim := { program := "ytdmepbjcnnggaaa", sum := "acae8719358e5131f89b5c2693f42e13dfaf94728ba03daa99eaa02cd2dac729", func := "sigil/sigillaw02.TablesSay", spec := "tablesSay", apart := false }
def TablesSaySaid : Prop := tablesSayRow.holds Try.pinned (OpenSpec.ofChange tablesSaySpec)

/-- ITS FALSE NEIGHBOUR: 'it returns false'. Refute it at one input. -/
def tablesSayWrong : ChangeSpec := { name := "tablesSay", fn := fun _ => fun
  | [d] => { results := [.lit (.bool false)], args := [d] }
  | _ => none }
def TablesSayWrongFalsely : Prop := tablesSayRow.holds Try.pinned (OpenSpec.ofChange tablesSayWrong)

/-- 'sigillaw02.TablesRight': WHATEVER THE INPUT: true; the input reads as it did. -/
def tablesRightSpec : ChangeSpec := { name := "tablesRight", fn := fun _ => fun
  | [d1, d2, d3] => { results := [.lit (.bool true)], args := [d1, d2, d3] }
  | _ => none }
def tablesRightRow : OpenClaim := { program := "ytdmepbjcnnggaaa", sum := "acae8719358e5131f89b5c2693f42e13dfaf94728ba03daa99eaa02cd2dac729", func := "sigil/sigillaw02.TablesRight", spec := "tablesRight", apart := false }
def TablesRightSaid : Prop := tablesRightRow.holds Try.pinned (OpenSpec.ofChange tablesRightSpec)

/-- ITS FALSE NEIGHBOUR: 'it returns false'. Refute it at one input. -/
def tablesRightWrong : ChangeSpec := { name := "tablesRight", fn := fun _ => fun
  | [d1, d2, d3] => { results := [.lit (.bool false)], args := [d1, d2, d3] }
  | _ => none }
def TablesRightWrongFalsely : Prop := tablesRightRow.holds Try.pinned (OpenSpec.ofChange tablesRightWrong)

/-- 'sigillaw02.TablesRoots': WHATEVER THE INPUT: true; the input reads as it did. -/
def tablesRootsSpec : ChangeSpec := { name := "tablesRoots", fn := fun _ => fun
  | [d1, d2] => { results := [.lit (.bool true)], args := [d1, d2] }
  | _ => none }
def tablesRootsRow : OpenClaim := { program := "ytdmepbjcnnggaaa", sum := "acae8719358e5131f89b5c2693f42e13dfaf94728ba03daa99eaa02cd2dac729", func := "sigil/sigillaw02.TablesRoots", spec := "tablesRoots", apart := false }
def TablesRootsSaid : Prop := tablesRootsRow.holds Try.pinned (OpenSpec.ofChange tablesRootsSpec)

/-- ITS FALSE NEIGHBOUR: 'it returns false'. Refute it at one input. -/
def tablesRootsWrong : ChangeSpec := { name := "tablesRoots", fn := fun _ => fun
  | [d1, d2] => { results := [.lit (.bool false)], args := [d1, d2] }
  | _ => none }
def TablesRootsWrongFalsely : Prop := tablesRootsRow.holds Try.pinned (OpenSpec.ofChange tablesRootsWrong)

/-- 'sigillaw02.TablesPowers': WHATEVER THE INPUT: true; the input reads as it did. -/
def tablesPowersSpec : ChangeSpec := { name := "tablesPowers", fn := fun _ => fun
  | [d1, d2, d3] => { results := [.lit (.bool true)], args := [d1, d2, d3] }
  | _ => none }
def tablesPowersRow : OpenClaim := { program := "ytdmepbjcnnggaaa", sum := "acae8719358e5131f89b5c2693f42e13dfaf94728ba03daa99eaa02cd2dac729", func := "sigil/sigillaw02.TablesPowers", spec := "tablesPowers", apart := false }
def TablesPowersSaid : Prop := tablesPowersRow.holds Try.pinned (OpenSpec.ofChange tablesPowersSpec)

/-- ITS FALSE NEIGHBOUR: 'it returns false'. Refute it at one input. -/
def tablesPowersWrong : ChangeSpec := { name := "tablesPowers", fn := fun _ => fun
  | [d1, d2, d3] => { results := [.lit (.bool false)], args := [d1, d2, d3] }
  | _ => none }
def TablesPowersWrongFalsely : Prop := tablesPowersRow.holds Try.pinned (OpenSpec.ofChange tablesPowersWrong)

/-- 'sigillaw02.TablesPrimes': WHATEVER THE INPUT: true; the input reads as it did. -/
def tablesPrimesSpec : ChangeSpec := { name := "tablesPrimes", fn := fun _ => fun
  | [d1, d2] => { results := [.lit (.bool true)], args := [d1, d2] }
  | _ => none }
def tablesPrimesRow : OpenClaim := { program := "ytdmepbjcnnggaaa", sum := "acae8719358e5131f89b5c2693f42e13dfaf94728ba03daa99eaa02cd2dac729", func := "sigil/sigillaw02.TablesPrimes", spec := "tablesPrimes", apart := false }
def TablesPrimesSaid : Prop := tablesPrimesRow.holds Try.pinned (OpenSpec.ofChange tablesPrimesSpec)

/-- ITS FALSE NEIGHBOUR: 'it returns false'. Refute it at one input. -/
def tablesPrimesWrong : ChangeSpec := { name := "tablesPrimes", fn := fun _ => fun
  | [d1, d2] => { results := [.lit (.bool false)], args := [d1, d2] }
  | _ => none }
def TablesPrimesWrongFalsely : Prop := tablesPrimesRow.holds Try.pinned (OpenSpec.ofChange tablesPrimesWrong)

/- THE SECOND FORM. 'bulk': how many values and letters a reading holds, each counted each time it is reached (what is shared counts as often as it is met; a slice's spare places count too). A statement '..UptoSaid' is the law's where the arguments, and the package variables that the reading takes, are together of bulk at most 1048576: NARROWER than '..Said'. Prove '..Said' where nothing that the law and all that it calls make is longer than what came in: it says more and counts as full. Else prove '..UptoSaid'. A law counts once. -/
mutual
def uptoBulk {H : Type} : DataW H → Nat
  | .lit (.string bytes) => bytes.length + 1
  | .lit _ => 1
  | .nil => 1
  | .ptr d => uptoBulk d + 1
  | .slice elems spare => uptoBulkAll elems + uptoBulkAll spare + 1
  | .agg parts => uptoBulkAll parts + 1
  | .iface _ d => uptoBulk d + 1
  | .map entries => uptoBulkEntries entries + 1
  | .held _ => 1
def uptoBulkAll {H : Type} : List (DataW H) → Nat
  | [] => 0
  | d :: r => uptoBulk d + uptoBulkAll r
def uptoBulkEntries {H : Type} : List (Lit × DataW H) → Nat
  | [] => 0
  | x :: r => uptoBulkEntry x + uptoBulkEntries r
def uptoBulkEntry {H : Type} : Lit × DataW H → Nat
  | (.string bytes, d) => bytes.length + uptoBulk d + 1
  | (_, d) => uptoBulk d + 1
 end
def uptoSmall : (H : Type) → List (DataW H) → Bool := fun _ ds => decide (uptoBulkAll ds ≤ 1048576)
def OpenSpec.upto (s : _root_.Go.ChangeSpec) : _root_.Go.OpenSpec := { _root_.Go.OpenSpec.ofChange s with cond := some uptoSmall }

/-- 'sigillaw02.TablesSay', WHERE WHAT IT READS IS OF BULK AT MOST 1048576: true; the input reads as it did. -/
def tablesSayUptoRow : OpenClaim := { program := "ytdmepbjcnnggaaa", sum := "acae8719358e5131f89b5c2693f42e13dfaf94728ba03daa99eaa02cd2dac729", func := "sigil/sigillaw02.TablesSay", spec := "tablesSay", apart := false, narrowed := true }
def TablesSayUptoSaid : Prop := tablesSayUptoRow.holds Try.pinned (OpenSpec.upto tablesSaySpec)

/-- 'sigillaw02.TablesRight', WHERE WHAT IT READS IS OF BULK AT MOST 1048576: true; the input reads as it did. -/
def tablesRightUptoRow : OpenClaim := { program := "ytdmepbjcnnggaaa", sum := "acae8719358e5131f89b5c2693f42e13dfaf94728ba03daa99eaa02cd2dac729", func := "sigil/sigillaw02.TablesRight", spec := "tablesRight", apart := false, narrowed := true }
def TablesRightUptoSaid : Prop := tablesRightUptoRow.holds Try.pinned (OpenSpec.upto tablesRightSpec)

/-- 'sigillaw02.TablesRoots', WHERE WHAT IT READS IS OF BULK AT MOST 1048576: true; the input reads as it did. -/
def tablesRootsUptoRow : OpenClaim := { program := "ytdmepbjcnnggaaa", sum := "acae8719358e5131f89b5c2693f42e13dfaf94728ba03daa99eaa02cd2dac729", func := "sigil/sigillaw02.TablesRoots", spec := "tablesRoots", apart := false, narrowed := true }
def TablesRootsUptoSaid : Prop := tablesRootsUptoRow.holds Try.pinned (OpenSpec.upto tablesRootsSpec)

/-- 'sigillaw02.TablesPowers', WHERE WHAT IT READS IS OF BULK AT MOST 1048576: true; the input reads as it did. -/
def tablesPowersUptoRow : OpenClaim := { program := "ytdmepbjcnnggaaa", sum := "acae8719358e5131f89b5c2693f42e13dfaf94728ba03daa99eaa02cd2dac729", func := "sigil/sigillaw02.TablesPowers", spec := "tablesPowers", apart := false, narrowed := true }
def TablesPowersUptoSaid : Prop := tablesPowersUptoRow.holds Try.pinned (OpenSpec.upto tablesPowersSpec)

/-- 'sigillaw02.TablesPrimes', WHERE WHAT IT READS IS OF BULK AT MOST 1048576: true; the input reads as it did. -/
def tablesPrimesUptoRow : OpenClaim := { program := "ytdmepbjcnnggaaa", sum := "acae8719358e5131f89b5c2693f42e13dfaf94728ba03daa99eaa02cd2dac729", func := "sigil/sigillaw02.TablesPrimes", spec := "tablesPrimes", apart := false, narrowed := true }
def TablesPrimesUptoSaid : Prop := tablesPrimesUptoRow.holds Try.pinned (OpenSpec.upto tablesPrimesSpec)

end Rows
end Go.Proofs.Ytdmepbjcnnggaaa
