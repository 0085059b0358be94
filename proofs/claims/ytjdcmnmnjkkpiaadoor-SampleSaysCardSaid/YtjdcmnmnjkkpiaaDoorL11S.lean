/-
  The statement SampleSays (P11.1 to P11.3): polynomials out of any seed. Conditions: none, but what the row lists of keccak's variable 'places', which the card ties to the program's text; for every input that the form speaks of.
-/
import Derived.Test.YtjdcmnmnjkkpiaaDoorRows
import Derived.Test.YtjdcmnmnjkkpiaaDoorCards
import Derived.Test.YtjdcmnmnjkkpiaaDoorTie
import Derived.Test.YtjdcmnmnjkkpiaaDoorKq
import Derived.Test.YtjdcmnmnjkkpiaaDoorSays11
import Derived.Test.YtjdcmnmnjkkpiaaDoorQAwake
import Derived.ProofKit
import Derived.OpenShut
import Derived.Carry
import Derived.SevenTiedAt
namespace Go.Proofs.YtjdcmnmnjkkpiaaDoor.l11s
open Go Go.ChangeShapes Go.WideShapes Go.ChangeAt Go.RowKit
open Go.Proofs.YtjdcmnmnjkkpiaaDoor.arr Go.Proofs.YtjdcmnmnjkkpiaaDoor.mem Go.Proofs.YtjdcmnmnjkkpiaaDoor.polt Go.Proofs.YtjdcmnmnjkkpiaaDoor.pols Go.Proofs.YtjdcmnmnjkkpiaaDoor.kturn Go.Proofs.YtjdcmnmnjkkpiaaDoor.kstep Go.Proofs.YtjdcmnmnjkkpiaaDoor.rndm Go.Proofs.YtjdcmnmnjkkpiaaDoor.polys Go.Proofs.YtjdcmnmnjkkpiaaDoor.samb Go.Proofs.YtjdcmnmnjkkpiaaDoor.saml Go.Proofs.YtjdcmnmnjkkpiaaDoor.samr Go.Proofs.YtjdcmnmnjkkpiaaDoor.rsdoc
set_option linter.unusedVariables false
theorem own : ownKnob Tryd.prog.godebug = none := by kernel_rfl
theorem laidOut : laidOutB Tryd.prog = true := by kernel_rfl

set_option maxRecDepth 100000 in
set_option maxHeartbeats 4000000 in
theorem far (b : ByteArray) (n0 n1 : Int) (w : World) (h : 400 < b.size) (hP : Gp w) :
    Calls Tryd.prog 3 #[.string b, .agg #[.int .i64 n0, .int .i64 n1]] w fun e w' => e = .returned (.bool true) ∧ Below w.heap.size w w' := by
  have HP := Away.mk hP
  have hz : (400 : Int) < (b.size : Int) := by omega
  obtain ⟨W0, hW0⟩ : ∃ x, w.alloc (.cells #[.int .i64 n0, .int .i64 n1] 22) = x := ⟨_, rfl⟩
  obtain ⟨r0, hs0, b0⟩ := one hW0
  have B0 := Away.mk b0
  have HW0 := Away.mk hW0
  clear hW0 r0 hs0 b0 h hP
  go_enter Tryd.func3, Tryd.ntmps3
  go_wp2_with (rw [HW0.out])
  refine (qawake.awake_any _ (HP.out.later B0.out)).mono ?_
  rintro e w3 ⟨rfl, hb⟩
  have HB : Away (Below w.heap.size w w3) := ⟨B0.out.trans (hb.mono B0.out.size)⟩
  clear hb
  go_wp2_with fail
  go_ret
  exact ⟨rfl, HB.out⟩
theorem walk (b : ByteArray) (n0 n1 : Int) (w : World) (wb : b.size ≤ maxLen) (w0 : (Lit.int .i64 n0).wf = true) (w1 : (Lit.int .i64 n1).wf = true) (hP : Gp w) :
    Calls Tryd.prog 3 #[.string b, .agg #[.int .i64 n0, .int .i64 n1]] w fun e w' => e = .returned (.bool true) ∧ Below w.heap.size w w' := by
  by_cases h : 400 < b.size
  · exact far b n0 n1 w h hP
  · exact says11.near b n0 n1 w (by omega) hP (fun w1 h1 => qdoc.uniform b w1 kecd.kt_doc h1 (by omega)) (fun w1 h1 => qdoc.small b n0 w1 kecd.kt_doc h1 (by omega)) (fun w1 h1 => qdoc.ball b n1 w1 kecd.kt_doc h1 (by omega)) (fun w1 h1 => qawake.awake_any w1 h1)
end Go.Proofs.YtjdcmnmnjkkpiaaDoor.l11s
