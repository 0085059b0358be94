/-
  What the small functions of package adrs return. Conditions: the numbers are small, for wholeBytes.
-/
import Derived.Test.YthggakbomlgkhaaAdM
namespace Go.Proofs.Ythggakbomlgkhaa.ads
open Go Go.RowKit
open Go.Proofs.Ythggakbomlgkhaa.arr Go.Proofs.Ythggakbomlgkhaa.mem

set_option maxRecDepth 100000 in
set_option maxHeartbeats 1000000 in
theorem within_any (n lo hi : Int) (w : World) : Calls Try.prog 26 #[.int .i64 n, .int .i64 lo, .int .i64 hi] w fun e w' => e = .returned (.bool (decide (lo ≤ n ∧ n ≤ hi))) ∧ w' = w := by
  by_cases c0 : lo ≤ n
  rotate_left
  · rw [decide_eq_false (fun h => c0 h.1)]
    go_enter Try.func26, Try.ntmps26
    go_wp2_with fail
    go_ret
    exact ⟨rfl, rfl⟩
  by_cases c1 : n ≤ hi
  rotate_left
  · rw [decide_eq_false (fun h => c1 h.2)]
    go_enter Try.func26, Try.ntmps26
    go_wp2_with fail
    go_ret
    exact ⟨rfl, rfl⟩
  rw [decide_eq_true ⟨c0, c1⟩]
  go_enter Try.func26, Try.ntmps26
  go_wp2_with fail
  go_ret
  exact ⟨rfl, rfl⟩
set_option maxRecDepth 100000 in
set_option maxHeartbeats 1000000 in
theorem family_any (k : Int) (w : World) : Calls Try.prog 25 #[.int .i64 k] w fun e w' => e = .returned (.int .i64 (if k ≤ 6 ∨ k = 14 then 2 else 1)) ∧ w' = w := by
  by_cases c0 : k ≤ 6
  · rw [if_pos (Or.inl c0)]
    go_enter Try.func25, Try.ntmps25
    go_wp2_with fail
    go_ret
    exact ⟨rfl, rfl⟩
  by_cases c1 : k = 14
  · subst c1
    rw [if_pos (Or.inr rfl)]
    go_enter Try.func25, Try.ntmps25
    go_wp2_with fail
    go_ret
    exact ⟨rfl, rfl⟩
  rw [if_neg (by omega)]
  go_enter Try.func25, Try.ntmps25
  go_wp2_with fail
  go_ret
  exact ⟨rfl, rfl⟩
set_option maxRecDepth 100000 in
set_option maxHeartbeats 1000000 in
theorem whole_any (n : Nat) (h : n ≤ 100000) (w : World) : Calls Try.prog 23 #[.int .i64 (n : Int)] w fun e w' => e = .returned (.int .i64 (((n + 7) / 8 : Nat) : Int)) ∧ w' = w := by
  obtain ⟨M, hM⟩ := ex_eq ((n + 7) / 8)
  have f3 : ((n : Int) + 7) / 8 = (M : Int) := by rw [← hM.out]; omega
  rw [hM.out]
  go_enter Try.func23, Try.ntmps23
  go_wp2_with fail
  go_ret
  exact ⟨ret_int f3, rfl⟩
end Go.Proofs.Ythggakbomlgkhaa.ads
