/-
  The statement MlkeyBytes (P12.3 to P12.6): encoding keys of any polynomials, and decoding any bytes as keys, agree with the reference. Conditions: none, but what the row lists of keccak's variable 'places', which the card ties to the program's text; for every input that the form speaks of.
-/
import Derived.Test.YtlcafjdehcddcaaGreatDoorRows
import Derived.Test.YtlcafjdehcddcaaGreatDoorCards
import Derived.Test.YtlcafjdehcddcaaGreatDoorTie
import Derived.Test.YtlcafjdehcddcaaGreatDoorKq
import Derived.Test.YtlcafjdehcddcaaGreatDoorKBy
import Derived.ProofKit
import Derived.OpenShut
import Derived.Carry
import Derived.SevenTiedAt
namespace Go.Proofs.YtlcafjdehcddcaaGreatDoor.l12y
open Go Go.ChangeShapes Go.WideShapes Go.ChangeAt Go.RowKit
open Go.Proofs.YtlcafjdehcddcaaGreatDoor.arr Go.Proofs.YtlcafjdehcddcaaGreatDoor.mem Go.Proofs.YtlcafjdehcddcaaGreatDoor.kturn
set_option linter.unusedVariables false
open Go.Proofs.YtlcafjdehcddcaaGreatDoor.polys Go.Proofs.YtlcafjdehcddcaaGreatDoor.polt
theorem own : ownKnob Tryz.prog.godebug = none := by kernel_rfl
theorem laidOut : laidOutB Tryz.prog = true := by kernel_rfl
set_option maxRecDepth 100000 in
set_option maxHeartbeats 4000000 in
theorem far (k l e t a b o s : Int) (sd : ByteArray) (f : Nat → Int) (w : World) (h : 5000 < sd.size) (hP : Gp w) :
 Calls Tryz.prog 4 #[.agg #[.int .i64 k, .int .i64 l, .int .i64 e, .int .i64 t, .int .i64 a, .int .i64 b, .int .i64 o, .int .i64 s], .string sd, .agg (FL .i64 256 f)] w fun e w' => e = .returned (.bool true) ∧ Below w.heap.size w w' := by
 have HP := Away.mk hP
 have hz : (5000 : Int) < (sd.size : Int) := by omega
 obtain ⟨L, HL⟩ := ex_eq (#[.int .i64 k, .int .i64 l, .int .i64 e, .int .i64 t, .int .i64 a, .int .i64 b, .int .i64 o, .int .i64 s] : Array Value)
 rw [HL.out]
 obtain ⟨M, HM⟩ := ex_eq (FL .i64 256 f)
 rw [HM.out]
 obtain ⟨W0, hW0⟩ : ∃ x, (w.alloc (.cells L 23)).alloc (.cells M 25) = x := ⟨_, rfl⟩
 obtain ⟨-, -, -, b0⟩ := polt.two hW0
 have B0 := Away.mk b0
 have HW0 := Away.mk hW0
 clear hW0 b0 h hP HL HM
 go_enter Tryz.func4, Tryz.ntmps4
 go_wp2_with (rw [HW0.out])
 refine (kaw.awake_any _ (HP.out.later B0.out)).mono ?_
 rintro e w3 ⟨rfl, hb⟩
 have HB : Away (Below w.heap.size w w3) := ⟨B0.out.trans (hb.mono B0.out.size)⟩
 clear hb
 go_wp2_with fail
 go_ret
 exact ⟨rfl, HB.out⟩
theorem walk (k l e t a b o s : Int) (sd : ByteArray) (f : Nat → Int) (w : World) (wb : sd.size ≤ maxLen) (wf : ∀ i, i < 256 → (Lit.int .i64 (f i)).wf = true) (hP : Gp w) :
 Calls Tryz.prog 4 #[.agg #[.int .i64 k, .int .i64 l, .int .i64 e, .int .i64 t, .int .i64 a, .int .i64 b, .int .i64 o, .int .i64 s], .string sd, .agg (FL .i64 256 f)] w fun e w' => e = .returned (.bool true) ∧ Below w.heap.size w w' := by
 by_cases h2 : 5000 < sd.size
 ·exact far k l e t a b o s sd f w h2 hP
 ·exact kby.near k l e t a b o s sd f w (by omega) hP
end Go.Proofs.YtlcafjdehcddcaaGreatDoor.l12y
