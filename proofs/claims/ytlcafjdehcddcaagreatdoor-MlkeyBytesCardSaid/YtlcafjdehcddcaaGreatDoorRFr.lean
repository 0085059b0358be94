/-
  What the document's own Reduce and Centre of layer 7 return. Conditions: none.
-/
import Derived.Test.YtlcafjdehcddcaaGreatDoorPuA
import Derived.Test.YtlcafjdehcddcaaGreatDoorProg
namespace Go.Proofs.YtlcafjdehcddcaaGreatDoor
namespace rfld
open Go Go.RowKit
open arr mem fldm
set_option maxRecDepth 100000 in
set_option maxHeartbeats 1000000 in
theorem reduce_any (x : Int) (w : World) : Calls Tryz.prog 89 #[.int .i64 x] w fun e w' => e = .returned (.int .i64 (x % 8380417)) ∧ w' = w := by
 obtain ⟨z, hz⟩ : ∃ z, x % 8380417 = z := ⟨_, rfl⟩
 obtain ⟨y, hy⟩ : ∃ y, x.tmod 8380417 = y := ⟨_, rfl⟩
 have h := tmod_is x 8380417 (by decide)
 have hb : 0 ≤ z ∧ z < 8380417 := by omega
 rw [hz, hy] at h
 rw [hz]
 rcases h with ⟨h1, h2⟩ | ⟨h1, h2⟩
 ·subst h2
  have h3 : ¬ y < 0 := by omega
  clear hz hb
  go_enter Tryz.func89, Tryz.ntmps89
  go_wp2_with fail
  go_ret
  exact ⟨rfl, rfl⟩
 ·have hw : IntKind.i64.wrap (y + 8380417) = z := by rw [IntKind.wrap_i64]; omega
  have h2' := Away.mk h2
  clear hz hb h2
  go_enter Tryz.func89, Tryz.ntmps89
  go_wp2_with fail
  go_ret
  exact ⟨by first | rfl | rw [← h2'.out], rfl⟩
end rfld
end Go.Proofs.YtlcafjdehcddcaaGreatDoor
