/-
  What the document's own Reduce and Centre of layer 7 return. Conditions: none.
-/
import Derived.Test.YtlcafjdehcddcaaGreatDoorPuA
import Derived.Test.YtlcafjdehcddcaaGreatDoorProg
namespace Go.Proofs.YtlcafjdehcddcaaGreatDoor
namespace rfld
open Go Go.RowKit
open arr mem fldm
set_option maxRecDepth 100000 in
set_option maxHeartbeats 1000000 in
theorem centre_any (x m : Int) (w : World) : Calls Tryz.prog 90 #[.int .i64 x, .int .i64 m] w fun e w' => e = .returned (.int .i64 (ce m x)) ∧ w' = w := by
 unfold ce
 by_cases h0 : m < 1
 ·rw [if_pos (Or.inl h0)]
  go_enter Tryz.func90, Tryz.ntmps90
  go_wp2_with fail
  go_ret
  exact ⟨rfl, rfl⟩
 ·by_cases h1 : 1125899906842624 < m
  ·rw [if_pos (Or.inr h1)]
   go_enter Tryz.func90, Tryz.ntmps90
   go_wp2_with fail
   go_ret
   exact ⟨rfl, rfl⟩
  ·rw [if_neg (by omega)]
   obtain ⟨z, hz⟩ : ∃ z, x % m = z := ⟨_, rfl⟩
   obtain ⟨y, hy⟩ : ∃ y, x.tmod m = y := ⟨_, rfl⟩
   have h := tmod_is x m (by omega)
   have hb : 0 ≤ z ∧ z < m := by rw [← hz]; exact ⟨Int.emod_nonneg _ (by omega), Int.emod_lt_of_pos _ (by omega)⟩
   rw [hz, hy] at h
   rw [hz]
   obtain ⟨d, hd⟩ : ∃ d, m / 2 = d := ⟨_, rfl⟩
   have fd : m.tdiv 2 = d := by rw [Int.tdiv_eq_ediv_of_nonneg (by omega)]; exact hd
   have fdw : IntKind.i64.wrap (m.tdiv 2) = d := by rw [fd, IntKind.wrap_i64]; omega
   have hm0 : ¬ m = 0 := by omega
   have hm1 : (m == 0) = false := beq_eq_false_iff_ne.2 hm0
   rw [hd]
   rcases h with ⟨h2, h3⟩ | ⟨h2, h3⟩
   ·subst h3
    have h4 : ¬ y < 0 := by omega
    by_cases h5 : d < y
    ·rw [if_pos h5]
     have hw : IntKind.i64.wrap (y - m) = y - m := by rw [IntKind.wrap_i64]; omega
     clear hz
     go_enter Tryz.func90, Tryz.ntmps90
     go_wp2_with fail
     go_ret
     exact ⟨rfl, rfl⟩
    ·rw [if_neg h5]
     clear hz
     go_enter Tryz.func90, Tryz.ntmps90
     go_wp2_with fail
     go_ret
     exact ⟨rfl, rfl⟩
   ·have hw : IntKind.i64.wrap (y + m) = z := by rw [IntKind.wrap_i64]; omega
    have hw0 : y + m = z := h3
    by_cases h5 : d < z
    ·rw [if_pos h5]
     have hw2 : IntKind.i64.wrap (z - m) = z - m := by rw [IntKind.wrap_i64]; omega
     clear hz h3
     go_enter Tryz.func90, Tryz.ntmps90
     go_wp2_with fail
     go_ret
     exact ⟨rfl, rfl⟩
    ·rw [if_neg h5]
     clear hz h3
     go_enter Tryz.func90, Tryz.ntmps90
     go_wp2_with fail
     go_ret
     exact ⟨rfl, rfl⟩
end rfld
end Go.Proofs.YtlcafjdehcddcaaGreatDoor
