/-
  What field's modulo and Reduce return. Conditions: none for Reduce; modulo's second number is positive and at most 2^62. What field's Centre returns. Conditions: none.
-/
import Derived.Test.YtlcafjdehcddcaaGreatDoorPuA
import Derived.Test.YtlcafjdehcddcaaGreatDoorProg
namespace Go.Proofs.YtlcafjdehcddcaaGreatDoor
namespace fld1
open Go Go.RowKit
open arr mem fldm
set_option maxRecDepth 100000 in
set_option maxHeartbeats 1000000 in
theorem modulo_any (x m : Int) (h0 : 0 < m) (h1 : m ≤ 4611686018427387904) (w : World) : Calls Tryz.prog 95 #[.int .i64 x, .int .i64 m] w fun e w' => e = .returned (.int .i64 (x % m)) ∧ w' = w := by
 obtain ⟨z, hz⟩ : ∃ z, x % m = z := ⟨_, rfl⟩
 obtain ⟨y, hy⟩ : ∃ y, x.tmod m = y := ⟨_, rfl⟩
 have h := tmod_is x m h0
 have hb : 0 ≤ z ∧ z < m := by rw [← hz]; exact ⟨Int.emod_nonneg _ (by omega), Int.emod_lt_of_pos _ (by omega)⟩
 have hm0 : ¬ m = 0 := by omega
 have hm1 : (m == 0) = false := beq_eq_false_iff_ne.2 hm0
 rw [hz, hy] at h
 rw [hz]
 rcases h with ⟨h2, h3⟩ | ⟨h2, h3⟩
 ·subst h3
  have h4 : ¬ y < 0 := by omega
  clear hz hb
  go_enter Tryz.func95, Tryz.ntmps95
  go_wp2_with fail
  go_ret
  exact ⟨rfl, rfl⟩
 ·have hw : IntKind.i64.wrap (y + m) = z := by rw [IntKind.wrap_i64]; omega
  have h3' := Away.mk h3
  clear hz hb h3
  go_enter Tryz.func95, Tryz.ntmps95
  go_wp2_with fail
  go_ret
  exact ⟨by first | rfl | rw [← h3'.out], rfl⟩
set_option maxRecDepth 100000 in
set_option maxHeartbeats 1000000 in
theorem reduce_any (x : Int) (w : World) : Calls Tryz.prog 54 #[.int .i64 x] w fun e w' => e = .returned (.int .i64 (x % 8380417)) ∧ w' = w := by
 obtain ⟨z, hz⟩ := ex_eq (x % 8380417)
 rw [hz.out]
 have H : ∀ w1 : World, Calls Tryz.prog 95 #[.int .i64 x, .int .i64 8380417] w1 fun e w' => e = .returned (.int .i64 z) ∧ w' = w1 := fun w1 => by rw [← hz.out]; exact modulo_any x 8380417 (by decide) (by decide) w1
 go_enter Tryz.func54, Tryz.ntmps54
 go_wp2_with fail
 refine (H _).mono ?_
 rintro e w1 ⟨rfl, rfl⟩
 go_wp2_with fail
 go_ret
 exact ⟨rfl, rfl⟩
end fld1
namespace fld1
open Go Go.RowKit
open arr mem fldm
set_option maxRecDepth 100000 in
set_option maxHeartbeats 1000000 in
theorem centre_any (x m : Int) (w : World) : Calls Tryz.prog 101 #[.int .i64 x, .int .i64 m] w fun e w' => e = .returned (.int .i64 (ce m x)) ∧ w' = w := by
 unfold ce
 by_cases h0 : m < 1
 ·rw [if_pos (Or.inl h0)]
  go_enter Tryz.func101, Tryz.ntmps101
  go_wp2_with fail
  go_ret
  exact ⟨rfl, rfl⟩
 ·by_cases h1 : 1125899906842624 < m
  ·rw [if_pos (Or.inr h1)]
   go_enter Tryz.func101, Tryz.ntmps101
   go_wp2_with fail
   go_ret
   exact ⟨rfl, rfl⟩
  ·rw [if_neg (by omega)]
   obtain ⟨z, hz⟩ := ex_eq (x % m)
   have hb : 0 ≤ z ∧ z < m := by rw [← hz.out]; exact ⟨Int.emod_nonneg _ (by omega), Int.emod_lt_of_pos _ (by omega)⟩
   rw [hz.out]
   have H : ∀ w1 : World, Calls Tryz.prog 95 #[.int .i64 x, .int .i64 m] w1 fun e w' => e = .returned (.int .i64 z) ∧ w' = w1 := fun w1 => by rw [← hz.out]; exact modulo_any x m (by omega) (by omega) w1
   have hw : IntKind.i64.wrap (m - z) = m - z := by rw [IntKind.wrap_i64]; omega
   have hw2 : IntKind.i64.wrap (z - m) = z - m := by rw [IntKind.wrap_i64]; omega
   by_cases h5 : m / 2 < z
   ·rw [if_pos h5]
    have h6 : m - z < z := by omega
    clear h5
    go_enter Tryz.func101, Tryz.ntmps101
    go_wp2_with fail
    refine (H _).mono ?_
    rintro e w1 ⟨rfl, rfl⟩
    go_wp2_with fail
    go_ret
    exact ⟨rfl, rfl⟩
   ·rw [if_neg h5]
    have h6 : ¬ m - z < z := by omega
    clear h5
    go_enter Tryz.func101, Tryz.ntmps101
    go_wp2_with fail
    refine (H _).mono ?_
    rintro e w1 ⟨rfl, rfl⟩
    go_wp2_with fail
    go_ret
    exact ⟨rfl, rfl⟩
end fld1
end Go.Proofs.YtlcafjdehcddcaaGreatDoor
