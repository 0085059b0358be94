/-
  What field's Centre returns. Conditions: none.
-/
import Derived.Test.YtdlolhilmhlklaaDoorFl1
namespace Go.Proofs.YtdlolhilmhlklaaDoor.fld1
open Go Go.RowKit
open Go.Proofs.YtdlolhilmhlklaaDoor.arr Go.Proofs.YtdlolhilmhlklaaDoor.mem Go.Proofs.YtdlolhilmhlklaaDoor.fldm

set_option maxRecDepth 100000 in
set_option maxHeartbeats 1000000 in
theorem centre_any (x m : Int) (w : World) : Calls Tryd.prog 29 #[.int .i64 x, .int .i64 m] w fun e w' => e = .returned (.int .i64 (ce m x)) ∧ w' = w := by
  unfold ce
  by_cases h0 : m < 1
  · rw [if_pos (Or.inl h0)]
    go_enter Tryd.func29, Tryd.ntmps29
    go_wp2_with fail
    go_ret
    exact ⟨rfl, rfl⟩
  · by_cases h1 : 1125899906842624 < m
    · rw [if_pos (Or.inr h1)]
      go_enter Tryd.func29, Tryd.ntmps29
      go_wp2_with fail
      go_ret
      exact ⟨rfl, rfl⟩
    · rw [if_neg (by omega)]
      obtain ⟨z, hz⟩ := ex_eq (x % m)
      have hb : 0 ≤ z ∧ z < m := by rw [← hz.out]; exact ⟨Int.emod_nonneg _ (by omega), Int.emod_lt_of_pos _ (by omega)⟩
      rw [hz.out]
      have H : ∀ w1 : World, Calls Tryd.prog 31 #[.int .i64 x, .int .i64 m] w1 fun e w' => e = .returned (.int .i64 z) ∧ w' = w1 := fun w1 => by rw [← hz.out]; exact modulo_any x m (by omega) (by omega) w1
      have hw : IntKind.i64.wrap (m - z) = m - z := by rw [IntKind.wrap_i64]; omega
      have hw2 : IntKind.i64.wrap (z - m) = z - m := by rw [IntKind.wrap_i64]; omega
      by_cases h5 : m / 2 < z
      · rw [if_pos h5]
        have h6 : m - z < z := by omega
        clear h5
        go_enter Tryd.func29, Tryd.ntmps29
        go_wp2_with fail
        refine (H _).mono ?_
        rintro e w1 ⟨rfl, rfl⟩
        go_wp2_with fail
        go_ret
        exact ⟨rfl, rfl⟩
      · rw [if_neg h5]
        have h6 : ¬ m - z < z := by omega
        clear h5
        go_enter Tryd.func29, Tryd.ntmps29
        go_wp2_with fail
        refine (H _).mono ?_
        rintro e w1 ⟨rfl, rfl⟩
        go_wp2_with fail
        go_ret
        exact ⟨rfl, rfl⟩
end Go.Proofs.YtdlolhilmhlklaaDoor.fld1
