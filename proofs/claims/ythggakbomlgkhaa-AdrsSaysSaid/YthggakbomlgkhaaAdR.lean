/-
  What adrs.Right returns, for any six numbers. Conditions: none.
-/
import Derived.Test.YthggakbomlgkhaaAdS
namespace Go.Proofs.Ythggakbomlgkhaa.adr
open Go Go.RowKit
open Go.Proofs.Ythggakbomlgkhaa.arr Go.Proofs.Ythggakbomlgkhaa.mem Go.Proofs.Ythggakbomlgkhaa.adm Go.Proofs.Ythggakbomlgkhaa.ads

set_option maxRecDepth 100000 in
set_option maxHeartbeats 4000000 in
theorem right_any (f n h d a k : Int) (w : World) : Calls Try.prog 12 #[.agg (fo f n h d a k)] w fun e w' => e = .returned (.bool (decide (okF f n h d a k))) ∧ Below w.heap.size w w' := by
  unfold fo
  obtain ⟨W, hW⟩ : ∃ x, w.alloc (.cells #[.int .i64 f, .int .i64 n, .int .i64 h, .int .i64 d, .int .i64 a, .int .i64 k] 23) = x := ⟨_, rfl⟩
  have HW := Away.mk hW
  have HB : Away (Below w.heap.size w W) := ⟨by rw [← hW]; exact below_alloc _ _⟩
  have hrow : W.heap[w.heap.size]? = some (.cells #[.int .i64 f, .int .i64 n, .int .i64 h, .int .i64 d, .int .i64 a, .int .i64 k] 23 (0, 0)) := by rw [← hW]; exact heap_at _ _ _ rfl
  have c0 : W.cell? ⟨w.heap.size, 0, none⟩ = some (.int .i64 f) := cell_at hrow rfl
  have c1 : W.cell? ⟨w.heap.size, 1, none⟩ = some (.int .i64 n) := cell_at hrow rfl
  have c2 : W.cell? ⟨w.heap.size, 2, none⟩ = some (.int .i64 h) := cell_at hrow rfl
  have c3 : W.cell? ⟨w.heap.size, 3, none⟩ = some (.int .i64 d) := cell_at hrow rfl
  have c4 : W.cell? ⟨w.heap.size, 4, none⟩ = some (.int .i64 a) := cell_at hrow rfl
  have c5 : W.cell? ⟨w.heap.size, 5, none⟩ = some (.int .i64 k) := cell_at hrow rfl
  clear hrow hW
  by_cases hf : f = 2 ∨ f = 1
  rotate_left
  · rw [decide_eq_false (fun q => hf q.1)]
    have hf1 : f ≠ 2 := fun q => hf (Or.inl q)
    have hf2 : f ≠ 1 := fun q => hf (Or.inr q)
    clear hf
    go_enter Try.func12, Try.ntmps12
    go_wp2_with (rw [HW.out])
    go_ret
    exact ⟨rfl, HB.out⟩
  have C0 : ∀ w1, _ := fun w1 => within_any n 2 32 w1
  by_cases h0 : 2 ≤ n ∧ n ≤ 32
  rotate_left
  · rw [decide_eq_false (fun q => h0 q.2.1)]
    rw [decide_eq_false h0] at C0
    clear h0
    rcases hf with rfl | rfl
    all_goals
      go_enter Try.func12, Try.ntmps12
      go_wp2_with (rw [HW.out])
      refine (C0 _).mono ?_
      rintro e0 w0 ⟨rfl, hw⟩
      rw [hw]
      clear hw
      go_wp2_with fail
      go_ret
      exact ⟨rfl, HB.out⟩
  rw [decide_eq_true h0] at C0
  have C1 : ∀ w1, _ := fun w1 => within_any d 1 22 w1
  by_cases h1 : 1 ≤ d ∧ d ≤ 22
  rotate_left
  · rw [decide_eq_false (fun q => h1 q.2.2.1)]
    rw [decide_eq_false h1] at C1
    clear h1
    rcases hf with rfl | rfl
    all_goals
      go_enter Try.func12, Try.ntmps12
      go_wp2_with (rw [HW.out])
      refine (C0 _).mono ?_
      rintro e0 w0 ⟨rfl, hw⟩
      rw [hw]
      clear hw
      go_wp2_with fail
      refine (C1 _).mono ?_
      rintro e0 w0 ⟨rfl, hw⟩
      rw [hw]
      clear hw
      go_wp2_with fail
      go_ret
      exact ⟨rfl, HB.out⟩
  rw [decide_eq_true h1] at C1
  have C2 : ∀ w1, _ := fun w1 => within_any h 1 68 w1
  by_cases h2 : 1 ≤ h ∧ h ≤ 68
  rotate_left
  · rw [decide_eq_false (fun q => h2 q.2.2.2.1)]
    rw [decide_eq_false h2] at C2
    clear h2
    rcases hf with rfl | rfl
    all_goals
      go_enter Try.func12, Try.ntmps12
      go_wp2_with (rw [HW.out])
      refine (C0 _).mono ?_
      rintro e0 w0 ⟨rfl, hw⟩
      rw [hw]
      clear hw
      go_wp2_with fail
      refine (C1 _).mono ?_
      rintro e0 w0 ⟨rfl, hw⟩
      rw [hw]
      clear hw
      go_wp2_with fail
      refine (C2 _).mono ?_
      rintro e0 w0 ⟨rfl, hw⟩
      rw [hw]
      clear hw
      go_wp2_with fail
      go_ret
      exact ⟨rfl, HB.out⟩
  rw [decide_eq_true h2] at C2
  have C3 : ∀ w1, _ := fun w1 => within_any a 1 14 w1
  by_cases h3 : 1 ≤ a ∧ a ≤ 14
  rotate_left
  · rw [decide_eq_false (fun q => h3 q.2.2.2.2.1)]
    rw [decide_eq_false h3] at C3
    clear h3
    rcases hf with rfl | rfl
    all_goals
      go_enter Try.func12, Try.ntmps12
      go_wp2_with (rw [HW.out])
      refine (C0 _).mono ?_
      rintro e0 w0 ⟨rfl, hw⟩
      rw [hw]
      clear hw
      go_wp2_with fail
      refine (C1 _).mono ?_
      rintro e0 w0 ⟨rfl, hw⟩
      rw [hw]
      clear hw
      go_wp2_with fail
      refine (C2 _).mono ?_
      rintro e0 w0 ⟨rfl, hw⟩
      rw [hw]
      clear hw
      go_wp2_with fail
      refine (C3 _).mono ?_
      rintro e0 w0 ⟨rfl, hw⟩
      rw [hw]
      clear hw
      go_wp2_with fail
      go_ret
      exact ⟨rfl, HB.out⟩
  rw [decide_eq_true h3] at C3
  have C4 : ∀ w1, _ := fun w1 => within_any k 1 35 w1
  by_cases h4 : 1 ≤ k ∧ k ≤ 35
  rotate_left
  · rw [decide_eq_false (fun q => h4 q.2.2.2.2.2.1)]
    rw [decide_eq_false h4] at C4
    clear h4
    rcases hf with rfl | rfl
    all_goals
      go_enter Try.func12, Try.ntmps12
      go_wp2_with (rw [HW.out])
      refine (C0 _).mono ?_
      rintro e0 w0 ⟨rfl, hw⟩
      rw [hw]
      clear hw
      go_wp2_with fail
      refine (C1 _).mono ?_
      rintro e0 w0 ⟨rfl, hw⟩
      rw [hw]
      clear hw
      go_wp2_with fail
      refine (C2 _).mono ?_
      rintro e0 w0 ⟨rfl, hw⟩
      rw [hw]
      clear hw
      go_wp2_with fail
      refine (C3 _).mono ?_
      rintro e0 w0 ⟨rfl, hw⟩
      rw [hw]
      clear hw
      go_wp2_with fail
      refine (C4 _).mono ?_
      rintro e0 w0 ⟨rfl, hw⟩
      rw [hw]
      clear hw
      go_wp2_with fail
      go_ret
      exact ⟨rfl, HB.out⟩
  rw [decide_eq_true h4] at C4
  obtain ⟨d1, d2⟩ := h1
  obtain ⟨e1, e2⟩ := h2
  by_cases h5 : h % d = 0
  rotate_left
  · rw [decide_eq_false (fun q => h5 q.2.2.2.2.2.2.1)]
    clear h0 h3 h4
    rcases hf with rfl | rfl
    all_goals
      go_enter Try.func12, Try.ntmps12
      go_wp2_with (rw [HW.out])
      refine (C0 _).mono ?_
      rintro e0 w0 ⟨rfl, hw⟩
      rw [hw]
      clear hw
      go_wp2_with fail
      refine (C1 _).mono ?_
      rintro e0 w0 ⟨rfl, hw⟩
      rw [hw]
      clear hw
      go_wp2_with fail
      refine (C2 _).mono ?_
      rintro e0 w0 ⟨rfl, hw⟩
      rw [hw]
      clear hw
      go_wp2_with fail
      refine (C3 _).mono ?_
      rintro e0 w0 ⟨rfl, hw⟩
      rw [hw]
      clear hw
      go_wp2_with fail
      refine (C4 _).mono ?_
      rintro e0 w0 ⟨rfl, hw⟩
      rw [hw]
      clear hw
      go_wp2_with fail
      go_ret
      exact ⟨rfl, HB.out⟩
  rw [show decide (okF f n h d a k) = decide (h / d ≤ 9) from decide_eq_decide.2 ⟨fun q => q.2.2.2.2.2.2.2, fun q => ⟨hf, h0, ⟨d1, d2⟩, ⟨e1, e2⟩, h3, h4, h5, q⟩⟩]
  clear h0 h3 h4
  rcases hf with rfl | rfl
  all_goals
    go_enter Try.func12, Try.ntmps12
    go_wp2_with (rw [HW.out])
    refine (C0 _).mono ?_
    rintro e0 w0 ⟨rfl, hw⟩
    rw [hw]
    clear hw
    go_wp2_with fail
    refine (C1 _).mono ?_
    rintro e0 w0 ⟨rfl, hw⟩
    rw [hw]
    clear hw
    go_wp2_with fail
    refine (C2 _).mono ?_
    rintro e0 w0 ⟨rfl, hw⟩
    rw [hw]
    clear hw
    go_wp2_with fail
    refine (C3 _).mono ?_
    rintro e0 w0 ⟨rfl, hw⟩
    rw [hw]
    clear hw
    go_wp2_with fail
    refine (C4 _).mono ?_
    rintro e0 w0 ⟨rfl, hw⟩
    rw [hw]
    clear hw
    go_wp2_with fail
    go_ret
    exact ⟨rfl, HB.out⟩
end Go.Proofs.Ythggakbomlgkhaa.adr
