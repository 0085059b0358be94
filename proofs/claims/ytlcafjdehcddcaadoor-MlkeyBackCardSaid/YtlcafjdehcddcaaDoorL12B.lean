/-
  The statement MlkeyBack (P12.8): the keys of a pair have the required lengths, and are decoded and encoded to the same bytes; any bytes that are decoded as a key are its encoding. Conditions: none, but what the row lists of keccak's variable 'places', which the card ties to the program's text; for every input that the form speaks of.
-/
import Derived.Test.YtlcafjdehcddcaaDoorRows
import Derived.Test.YtlcafjdehcddcaaDoorCards
import Derived.Test.YtlcafjdehcddcaaDoorTie
import Derived.Test.YtlcafjdehcddcaaDoorKq
import Derived.Test.YtlcafjdehcddcaaDoorKBa
import Derived.ProofKit
import Derived.OpenShut
import Derived.Carry
import Derived.SevenTiedAt
namespace Go.Proofs.YtlcafjdehcddcaaDoor.l12b
open Go Go.ChangeShapes Go.WideShapes Go.ChangeAt Go.RowKit
open Go.Proofs.YtlcafjdehcddcaaDoor.arr Go.Proofs.YtlcafjdehcddcaaDoor.mem Go.Proofs.YtlcafjdehcddcaaDoor.kturn
set_option linter.unusedVariables false
theorem own : ownKnob Tryd.prog.godebug = none := by kernel_rfl
theorem laidOut : laidOutB Tryd.prog = true := by kernel_rfl
set_option maxRecDepth 100000 in
set_option maxHeartbeats 4000000 in
theorem far1 (wh : Int) (sd y : ByteArray) (w : World) (h : sd.size ≠ 32) (hP : Gp w) :
 Calls Tryd.prog 3 #[.int .i64 wh, .string sd, .string y] w fun e w' => e = .returned (.bool true) ∧ Below w.heap.size w w' := by
 have HP := Away.mk hP
 have hz : ((sd.size : Int) != 32) = true := by simp; omega
 clear h hP
 go_enter Tryd.func3, Tryd.ntmps3
 go_wp2_with fail
 refine (kaw.awake_any _ HP.out).mono ?_
 rintro e w3 ⟨rfl, hb⟩
 have HB : Away (Below w.heap.size w w3) := ⟨hb⟩
 clear hb
 go_wp2_with fail
 go_ret
 exact ⟨rfl, HB.out⟩
set_option maxRecDepth 100000 in
set_option maxHeartbeats 4000000 in
theorem far2 (wh : Int) (sd y : ByteArray) (w : World) (h : sd.size = 32 ∧ 5000 < y.size) (hP : Gp w) :
 Calls Tryd.prog 3 #[.int .i64 wh, .string sd, .string y] w fun e w' => e = .returned (.bool true) ∧ Below w.heap.size w w' := by
 have HP := Away.mk hP
 have hz : (sd.size : Int) = 32 := by omega
 have hy : (5000 : Int) < (y.size : Int) := by omega
 clear h hP
 go_enter Tryd.func3, Tryd.ntmps3
 go_wp2_with fail
 refine (kaw.awake_any _ HP.out).mono ?_
 rintro e w3 ⟨rfl, hb⟩
 have HB : Away (Below w.heap.size w w3) := ⟨hb⟩
 clear hb
 go_wp2_with fail
 go_ret
 exact ⟨rfl, HB.out⟩
theorem walk (wh : Int) (sd y : ByteArray) (w : World) (ww : (Lit.int .i64 wh).wf = true) (wb : sd.size ≤ maxLen) (wy : y.size ≤ maxLen) (hP : Gp w) :
 Calls Tryd.prog 3 #[.int .i64 wh, .string sd, .string y] w fun e w' => e = .returned (.bool true) ∧ Below w.heap.size w w' := by
 by_cases h : sd.size = 32
 rotate_left
 ·exact far1 wh sd y w h hP
 by_cases h5 : 5000 < y.size
 ·exact far2 wh sd y w ⟨h, h5⟩ hP
 have hx : 0 ≤ IntKind.u64.wrap wh := by rw [IntKind.wrap_u64]; omega
 obtain ⟨r, hr⟩ := Int.eq_ofNat_of_zero_le (a := (IntKind.u64.wrap wh).tmod 4) (Int.tmod_nonneg _ hx)
 have hr4 : r < 4 := by
  have := Int.tmod_lt_of_pos (IntKind.u64.wrap wh) (show (0 : Int) < 4 by decide)
  omega
 rcases (show r = 0 ∨ r = 1 ∨ r = 2 ∨ r = 3 by omega) with rfl | rfl | rfl | rfl
 ·exact kba.near wh 0 4 4 2 39 131072 95232 80 128 sd y w h (by omega) hP (by decide +kernel) hr hr4 (fun w1 => rset.set_1 w1)
 ·exact kba.near wh 1 6 5 4 49 524288 261888 55 192 sd y w h (by omega) hP (by decide +kernel) hr hr4 (fun w1 => rset.set_2 w1)
 ·exact kba.near wh 2 8 7 2 60 524288 261888 75 256 sd y w h (by omega) hP (by decide +kernel) hr hr4 (fun w1 => rset.set_3 w1)
 ·exact kba.near wh 3 1 1 2 20 131072 95232 60 128 sd y w h (by omega) hP (by decide +kernel) hr hr4 (fun w1 => rset.set_4 w1)
end Go.Proofs.YtlcafjdehcddcaaDoor.l12b
