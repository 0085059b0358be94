/-
  What the small functions of package bits return: whether bounds are right, and the size. Conditions: the width is small, for the size.
-/
import Derived.Test.YtdlolhilmhlklaaDoorSti
import Derived.Test.YtdlolhilmhlklaaDoorProg
namespace Go.Proofs.YtdlolhilmhlklaaDoor.psmall
open Go Go.RowKit
open Go.Proofs.YtdlolhilmhlklaaDoor.arr Go.Proofs.YtdlolhilmhlklaaDoor.mem

set_option maxRecDepth 100000 in
set_option maxHeartbeats 1000000 in
theorem most_any (m : Int) (w : World) : Calls Tryd.prog 16 #[.int .i64 m] w fun e w' => e = .returned (.bool (decide (1 ≤ m ∧ m < 8380417))) ∧ w' = w := by
  by_cases c0 : 1 ≤ m
  rotate_left
  · rw [decide_eq_false (fun h => c0 h.1)]
    go_enter Tryd.func16, Tryd.ntmps16
    go_wp2_with fail
    go_ret
    exact ⟨rfl, rfl⟩
  by_cases c1 : m < 8380417
  rotate_left
  · rw [decide_eq_false (fun h => c1 h.2)]
    go_enter Tryd.func16, Tryd.ntmps16
    go_wp2_with fail
    go_ret
    exact ⟨rfl, rfl⟩
  rw [decide_eq_true ⟨c0, c1⟩]
  go_enter Tryd.func16, Tryd.ntmps16
  go_wp2_with fail
  go_ret
  exact ⟨rfl, rfl⟩
set_option maxRecDepth 100000 in
set_option maxHeartbeats 1000000 in
theorem ends_any (l h : Int) (w : World) : Calls Tryd.prog 22 #[.int .i64 l, .int .i64 h] w fun e w' => e = .returned (.bool (decide (0 ≤ l ∧ l < 4190208 ∧ 1 ≤ h ∧ h < 4190208))) ∧ w' = w := by
  by_cases c0 : 0 ≤ l
  rotate_left
  · rw [decide_eq_false (fun k => c0 k.1)]
    go_enter Tryd.func22, Tryd.ntmps22
    go_wp2_with fail
    go_ret
    exact ⟨rfl, rfl⟩
  by_cases c1 : l < 4190208
  rotate_left
  · rw [decide_eq_false (fun k => c1 k.2.1)]
    go_enter Tryd.func22, Tryd.ntmps22
    go_wp2_with fail
    go_ret
    exact ⟨rfl, rfl⟩
  by_cases c2 : 1 ≤ h
  rotate_left
  · rw [decide_eq_false (fun k => c2 k.2.2.1)]
    go_enter Tryd.func22, Tryd.ntmps22
    go_wp2_with fail
    go_ret
    exact ⟨rfl, rfl⟩
  by_cases c3 : h < 4190208
  rotate_left
  · rw [decide_eq_false (fun k => c3 k.2.2.2)]
    go_enter Tryd.func22, Tryd.ntmps22
    go_wp2_with fail
    go_ret
    exact ⟨rfl, rfl⟩
  rw [decide_eq_true ⟨c0, c1, c2, c3⟩]
  go_enter Tryd.func22, Tryd.ntmps22
  go_wp2_with fail
  go_ret
  exact ⟨rfl, rfl⟩
set_option maxRecDepth 100000 in
set_option maxHeartbeats 1000000 in
theorem hints_any (o m : Int) (w : World) : Calls Tryd.prog 25 #[.int .i64 o, .int .i64 m] w fun e w' => e = .returned (.bool (decide (1 ≤ o ∧ o ≤ 255 ∧ 1 ≤ m ∧ m ≤ 8))) ∧ w' = w := by
  by_cases c0 : 1 ≤ o
  rotate_left
  · rw [decide_eq_false (fun h => c0 h.1)]
    go_enter Tryd.func25, Tryd.ntmps25
    go_wp2_with fail
    go_ret
    exact ⟨rfl, rfl⟩
  by_cases c1 : o ≤ 255
  rotate_left
  · rw [decide_eq_false (fun h => c1 h.2.1)]
    go_enter Tryd.func25, Tryd.ntmps25
    go_wp2_with fail
    go_ret
    exact ⟨rfl, rfl⟩
  by_cases c2 : 1 ≤ m
  rotate_left
  · rw [decide_eq_false (fun h => c2 h.2.2.1)]
    go_enter Tryd.func25, Tryd.ntmps25
    go_wp2_with fail
    go_ret
    exact ⟨rfl, rfl⟩
  by_cases c3 : m ≤ 8
  rotate_left
  · rw [decide_eq_false (fun h => c3 h.2.2.2)]
    go_enter Tryd.func25, Tryd.ntmps25
    go_wp2_with fail
    go_ret
    exact ⟨rfl, rfl⟩
  rw [decide_eq_true ⟨c0, c1, c2, c3⟩]
  go_enter Tryd.func25, Tryd.ntmps25
  go_wp2_with fail
  go_ret
  exact ⟨rfl, rfl⟩
set_option maxRecDepth 100000 in
set_option maxHeartbeats 1000000 in
theorem size_any (wd : Nat) (h : wd ≤ 64) (w : World) : Calls Tryd.prog 17 #[.int .i64 (wd : Int)] w fun e w' => e = .returned (.int .i64 ((32 * wd : Nat) : Int)) ∧ w' = w := by
  obtain ⟨M, hM⟩ := ex_eq (32 * wd)
  have f1 : IntKind.i64.wrap (256 * (wd : Int)) = 256 * (wd : Int) := by rw [IntKind.wrap_i64]; omega
  have f2 : (256 * (wd : Int)).tdiv 8 = (M : Int) := by rw [Int.tdiv_eq_ediv_of_nonneg (by omega)]; have := hM.out; omega
  have f3 : 256 * (wd : Int) / 8 = (M : Int) := by have := hM.out; omega
  rw [hM.out]
  go_enter Tryd.func17, Tryd.ntmps17
  go_wp2_with fail
  go_ret
  exact ⟨by first | rfl | (congr 2; have := hM.out; omega), rfl⟩
end Go.Proofs.YtdlolhilmhlklaaDoor.psmall
