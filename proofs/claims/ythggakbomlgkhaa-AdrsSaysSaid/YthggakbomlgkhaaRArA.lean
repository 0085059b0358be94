/-
  What the reference's Right returns, part 1. Conditions: as each theorem says.
-/
import Derived.Test.YthggakbomlgkhaaAdM
namespace Go.Proofs.Ythggakbomlgkhaa.rar
open Go Go.RowKit
open Go.Proofs.Ythggakbomlgkhaa.arr Go.Proofs.Ythggakbomlgkhaa.mem Go.Proofs.Ythggakbomlgkhaa.adm

set_option maxRecDepth 100000 in
set_option maxHeartbeats 1000000 in
theorem bad_f (f n h d a k : Int) (w : World) (hf1 : f ≠ 2) (hf2 : f ≠ 1) : Calls Try.prog 13 #[.agg (fo f n h d a k)] w fun e w' => e = .returned (.bool false) ∧ Below w.heap.size w w' := by
  unfold fo
  obtain ⟨W, hW⟩ : ∃ x, w.alloc (.cells #[.int .i64 f, .int .i64 n, .int .i64 h, .int .i64 d, .int .i64 a, .int .i64 k] 23) = x := ⟨_, rfl⟩
  have HW := Away.mk hW
  have HB : Away (Below w.heap.size w W) := ⟨by rw [← hW]; exact below_alloc _ _⟩
  have hrow : W.heap[w.heap.size]? = some (.cells #[.int .i64 f, .int .i64 n, .int .i64 h, .int .i64 d, .int .i64 a, .int .i64 k] 23 (0, 0)) := by rw [← hW]; exact heap_at _ _ _ rfl
  have c0 : W.cell? ⟨w.heap.size, 0, none⟩ = some (.int .i64 f) := cell_at hrow rfl
  have c1 : W.cell? ⟨w.heap.size, 1, none⟩ = some (.int .i64 n) := cell_at hrow rfl
  have c2 : W.cell? ⟨w.heap.size, 2, none⟩ = some (.int .i64 h) := cell_at hrow rfl
  have c3 : W.cell? ⟨w.heap.size, 3, none⟩ = some (.int .i64 d) := cell_at hrow rfl
  have c4 : W.cell? ⟨w.heap.size, 4, none⟩ = some (.int .i64 a) := cell_at hrow rfl
  have c5 : W.cell? ⟨w.heap.size, 5, none⟩ = some (.int .i64 k) := cell_at hrow rfl
  clear hrow hW
  go_enter Try.func13, Try.ntmps13
  go_wp2_with (rw [HW.out])
  go_ret
  exact ⟨rfl, HB.out⟩
set_option maxRecDepth 100000 in
set_option maxHeartbeats 1000000 in
theorem bad_0 (f n h d a k : Int) (w : World) (hf : f = 2 ∨ f = 1)(x : ¬ 2 ≤ n) : Calls Try.prog 13 #[.agg (fo f n h d a k)] w fun e w' => e = .returned (.bool false) ∧ Below w.heap.size w w' := by
  unfold fo
  obtain ⟨W, hW⟩ : ∃ x, w.alloc (.cells #[.int .i64 f, .int .i64 n, .int .i64 h, .int .i64 d, .int .i64 a, .int .i64 k] 23) = x := ⟨_, rfl⟩
  have HW := Away.mk hW
  have HB : Away (Below w.heap.size w W) := ⟨by rw [← hW]; exact below_alloc _ _⟩
  have hrow : W.heap[w.heap.size]? = some (.cells #[.int .i64 f, .int .i64 n, .int .i64 h, .int .i64 d, .int .i64 a, .int .i64 k] 23 (0, 0)) := by rw [← hW]; exact heap_at _ _ _ rfl
  have c0 : W.cell? ⟨w.heap.size, 0, none⟩ = some (.int .i64 f) := cell_at hrow rfl
  have c1 : W.cell? ⟨w.heap.size, 1, none⟩ = some (.int .i64 n) := cell_at hrow rfl
  have c2 : W.cell? ⟨w.heap.size, 2, none⟩ = some (.int .i64 h) := cell_at hrow rfl
  have c3 : W.cell? ⟨w.heap.size, 3, none⟩ = some (.int .i64 d) := cell_at hrow rfl
  have c4 : W.cell? ⟨w.heap.size, 4, none⟩ = some (.int .i64 a) := cell_at hrow rfl
  have c5 : W.cell? ⟨w.heap.size, 5, none⟩ = some (.int .i64 k) := cell_at hrow rfl
  clear hrow hW
  rcases hf with rfl | rfl
  all_goals
    go_enter Try.func13, Try.ntmps13
    go_wp2_with (rw [HW.out])
    go_ret
    exact ⟨rfl, HB.out⟩
set_option maxRecDepth 100000 in
set_option maxHeartbeats 1000000 in
theorem bad_1 (f n h d a k : Int) (w : World) (hf : f = 2 ∨ f = 1) (h0 : 2 ≤ n) (x : ¬ n ≤ 32) : Calls Try.prog 13 #[.agg (fo f n h d a k)] w fun e w' => e = .returned (.bool false) ∧ Below w.heap.size w w' := by
  unfold fo
  obtain ⟨W, hW⟩ : ∃ x, w.alloc (.cells #[.int .i64 f, .int .i64 n, .int .i64 h, .int .i64 d, .int .i64 a, .int .i64 k] 23) = x := ⟨_, rfl⟩
  have HW := Away.mk hW
  have HB : Away (Below w.heap.size w W) := ⟨by rw [← hW]; exact below_alloc _ _⟩
  have hrow : W.heap[w.heap.size]? = some (.cells #[.int .i64 f, .int .i64 n, .int .i64 h, .int .i64 d, .int .i64 a, .int .i64 k] 23 (0, 0)) := by rw [← hW]; exact heap_at _ _ _ rfl
  have c0 : W.cell? ⟨w.heap.size, 0, none⟩ = some (.int .i64 f) := cell_at hrow rfl
  have c1 : W.cell? ⟨w.heap.size, 1, none⟩ = some (.int .i64 n) := cell_at hrow rfl
  have c2 : W.cell? ⟨w.heap.size, 2, none⟩ = some (.int .i64 h) := cell_at hrow rfl
  have c3 : W.cell? ⟨w.heap.size, 3, none⟩ = some (.int .i64 d) := cell_at hrow rfl
  have c4 : W.cell? ⟨w.heap.size, 4, none⟩ = some (.int .i64 a) := cell_at hrow rfl
  have c5 : W.cell? ⟨w.heap.size, 5, none⟩ = some (.int .i64 k) := cell_at hrow rfl
  clear hrow hW
  rcases hf with rfl | rfl
  all_goals
    go_enter Try.func13, Try.ntmps13
    go_wp2_with (rw [HW.out])
    go_ret
    exact ⟨rfl, HB.out⟩
set_option maxRecDepth 100000 in
set_option maxHeartbeats 1000000 in
theorem bad_2 (f n h d a k : Int) (w : World) (hf : f = 2 ∨ f = 1) (h0 : 2 ≤ n) (h1 : n ≤ 32) (x : ¬ 1 ≤ d) : Calls Try.prog 13 #[.agg (fo f n h d a k)] w fun e w' => e = .returned (.bool false) ∧ Below w.heap.size w w' := by
  unfold fo
  obtain ⟨W, hW⟩ : ∃ x, w.alloc (.cells #[.int .i64 f, .int .i64 n, .int .i64 h, .int .i64 d, .int .i64 a, .int .i64 k] 23) = x := ⟨_, rfl⟩
  have HW := Away.mk hW
  have HB : Away (Below w.heap.size w W) := ⟨by rw [← hW]; exact below_alloc _ _⟩
  have hrow : W.heap[w.heap.size]? = some (.cells #[.int .i64 f, .int .i64 n, .int .i64 h, .int .i64 d, .int .i64 a, .int .i64 k] 23 (0, 0)) := by rw [← hW]; exact heap_at _ _ _ rfl
  have c0 : W.cell? ⟨w.heap.size, 0, none⟩ = some (.int .i64 f) := cell_at hrow rfl
  have c1 : W.cell? ⟨w.heap.size, 1, none⟩ = some (.int .i64 n) := cell_at hrow rfl
  have c2 : W.cell? ⟨w.heap.size, 2, none⟩ = some (.int .i64 h) := cell_at hrow rfl
  have c3 : W.cell? ⟨w.heap.size, 3, none⟩ = some (.int .i64 d) := cell_at hrow rfl
  have c4 : W.cell? ⟨w.heap.size, 4, none⟩ = some (.int .i64 a) := cell_at hrow rfl
  have c5 : W.cell? ⟨w.heap.size, 5, none⟩ = some (.int .i64 k) := cell_at hrow rfl
  clear hrow hW
  rcases hf with rfl | rfl
  all_goals
    go_enter Try.func13, Try.ntmps13
    go_wp2_with (rw [HW.out])
    go_ret
    exact ⟨rfl, HB.out⟩
set_option maxRecDepth 100000 in
set_option maxHeartbeats 1000000 in
theorem bad_3 (f n h d a k : Int) (w : World) (hf : f = 2 ∨ f = 1) (h0 : 2 ≤ n) (h1 : n ≤ 32) (h2 : 1 ≤ d) (x : ¬ d ≤ 22) : Calls Try.prog 13 #[.agg (fo f n h d a k)] w fun e w' => e = .returned (.bool false) ∧ Below w.heap.size w w' := by
  unfold fo
  obtain ⟨W, hW⟩ : ∃ x, w.alloc (.cells #[.int .i64 f, .int .i64 n, .int .i64 h, .int .i64 d, .int .i64 a, .int .i64 k] 23) = x := ⟨_, rfl⟩
  have HW := Away.mk hW
  have HB : Away (Below w.heap.size w W) := ⟨by rw [← hW]; exact below_alloc _ _⟩
  have hrow : W.heap[w.heap.size]? = some (.cells #[.int .i64 f, .int .i64 n, .int .i64 h, .int .i64 d, .int .i64 a, .int .i64 k] 23 (0, 0)) := by rw [← hW]; exact heap_at _ _ _ rfl
  have c0 : W.cell? ⟨w.heap.size, 0, none⟩ = some (.int .i64 f) := cell_at hrow rfl
  have c1 : W.cell? ⟨w.heap.size, 1, none⟩ = some (.int .i64 n) := cell_at hrow rfl
  have c2 : W.cell? ⟨w.heap.size, 2, none⟩ = some (.int .i64 h) := cell_at hrow rfl
  have c3 : W.cell? ⟨w.heap.size, 3, none⟩ = some (.int .i64 d) := cell_at hrow rfl
  have c4 : W.cell? ⟨w.heap.size, 4, none⟩ = some (.int .i64 a) := cell_at hrow rfl
  have c5 : W.cell? ⟨w.heap.size, 5, none⟩ = some (.int .i64 k) := cell_at hrow rfl
  clear hrow hW
  rcases hf with rfl | rfl
  all_goals
    go_enter Try.func13, Try.ntmps13
    go_wp2_with (rw [HW.out])
    go_ret
    exact ⟨rfl, HB.out⟩
end Go.Proofs.Ythggakbomlgkhaa.rar
