/-
  What adrs.Set returns, for any kind. Conditions: none.
-/
import Derived.Test.YthggakbomlgkhaaAdS
import Derived.Test.YthggakbomlgkhaaStil
namespace Go.Proofs.Ythggakbomlgkhaa.adu
open Go Go.RowKit
open Go.Proofs.Ythggakbomlgkhaa.arr Go.Proofs.Ythggakbomlgkhaa.mem Go.Proofs.Ythggakbomlgkhaa.stil Go.Proofs.Ythggakbomlgkhaa.boxt Go.Proofs.Ythggakbomlgkhaa.adm Go.Proofs.Ythggakbomlgkhaa.ads

set_option maxRecDepth 100000 in
set_option maxHeartbeats 4000000 in
theorem set_1 (w : World) : Calls Try.prog 10 #[.int .i64 1] w fun e w' => e = .returned (.tuple #[.agg (fo 2 16 63 7 12 14), .int .i64 0]) ∧ Below w.heap.size w w' := by
  have HF : ∀ w1, _ := fun w1 => family_any 1 w1
  rw [if_pos (by decide)] at HF
  unfold fo
  go_enter Try.func10, Try.ntmps10
  go_wp2_with fail
  refine (HF _).mono ?_
  rintro e w2 ⟨rfl, hw⟩
  rw [hw]
  clear hw
  go_wp2_with fail
  refine bodyPost_ret_by (results_box_tmp rfl _ _ w.heap.size 23 _ (0, 0) _ rfl (two rfl).1 Try.underlying23 rfl (by kernel_rfl) (.int .i64 0) rfl) rfl ?_
  exact ⟨rfl, (two rfl).2.2.2⟩
set_option maxRecDepth 100000 in
set_option maxHeartbeats 4000000 in
theorem set_2 (w : World) : Calls Try.prog 10 #[.int .i64 2] w fun e w' => e = .returned (.tuple #[.agg (fo 2 16 66 22 6 33), .int .i64 0]) ∧ Below w.heap.size w w' := by
  have HF : ∀ w1, _ := fun w1 => family_any 2 w1
  rw [if_pos (by decide)] at HF
  unfold fo
  go_enter Try.func10, Try.ntmps10
  go_wp2_with fail
  refine (HF _).mono ?_
  rintro e w2 ⟨rfl, hw⟩
  rw [hw]
  clear hw
  go_wp2_with fail
  refine bodyPost_ret_by (results_box_tmp rfl _ _ w.heap.size 23 _ (0, 0) _ rfl (two rfl).1 Try.underlying23 rfl (by kernel_rfl) (.int .i64 0) rfl) rfl ?_
  exact ⟨rfl, (two rfl).2.2.2⟩
set_option maxRecDepth 100000 in
set_option maxHeartbeats 4000000 in
theorem set_3 (w : World) : Calls Try.prog 10 #[.int .i64 3] w fun e w' => e = .returned (.tuple #[.agg (fo 2 24 63 7 14 17), .int .i64 0]) ∧ Below w.heap.size w w' := by
  have HF : ∀ w1, _ := fun w1 => family_any 3 w1
  rw [if_pos (by decide)] at HF
  unfold fo
  go_enter Try.func10, Try.ntmps10
  go_wp2_with fail
  refine (HF _).mono ?_
  rintro e w2 ⟨rfl, hw⟩
  rw [hw]
  clear hw
  go_wp2_with fail
  refine bodyPost_ret_by (results_box_tmp rfl _ _ w.heap.size 23 _ (0, 0) _ rfl (two rfl).1 Try.underlying23 rfl (by kernel_rfl) (.int .i64 0) rfl) rfl ?_
  exact ⟨rfl, (two rfl).2.2.2⟩
set_option maxRecDepth 100000 in
set_option maxHeartbeats 4000000 in
theorem set_4 (w : World) : Calls Try.prog 10 #[.int .i64 4] w fun e w' => e = .returned (.tuple #[.agg (fo 2 24 66 22 8 33), .int .i64 0]) ∧ Below w.heap.size w w' := by
  have HF : ∀ w1, _ := fun w1 => family_any 4 w1
  rw [if_pos (by decide)] at HF
  unfold fo
  go_enter Try.func10, Try.ntmps10
  go_wp2_with fail
  refine (HF _).mono ?_
  rintro e w2 ⟨rfl, hw⟩
  rw [hw]
  clear hw
  go_wp2_with fail
  refine bodyPost_ret_by (results_box_tmp rfl _ _ w.heap.size 23 _ (0, 0) _ rfl (two rfl).1 Try.underlying23 rfl (by kernel_rfl) (.int .i64 0) rfl) rfl ?_
  exact ⟨rfl, (two rfl).2.2.2⟩
set_option maxRecDepth 100000 in
set_option maxHeartbeats 4000000 in
theorem set_5 (w : World) : Calls Try.prog 10 #[.int .i64 5] w fun e w' => e = .returned (.tuple #[.agg (fo 2 32 64 8 14 22), .int .i64 0]) ∧ Below w.heap.size w w' := by
  have HF : ∀ w1, _ := fun w1 => family_any 5 w1
  rw [if_pos (by decide)] at HF
  unfold fo
  go_enter Try.func10, Try.ntmps10
  go_wp2_with fail
  refine (HF _).mono ?_
  rintro e w2 ⟨rfl, hw⟩
  rw [hw]
  clear hw
  go_wp2_with fail
  refine bodyPost_ret_by (results_box_tmp rfl _ _ w.heap.size 23 _ (0, 0) _ rfl (two rfl).1 Try.underlying23 rfl (by kernel_rfl) (.int .i64 0) rfl) rfl ?_
  exact ⟨rfl, (two rfl).2.2.2⟩
set_option maxRecDepth 100000 in
set_option maxHeartbeats 4000000 in
theorem set_6 (w : World) : Calls Try.prog 10 #[.int .i64 6] w fun e w' => e = .returned (.tuple #[.agg (fo 2 32 68 17 9 35), .int .i64 0]) ∧ Below w.heap.size w w' := by
  have HF : ∀ w1, _ := fun w1 => family_any 6 w1
  rw [if_pos (by decide)] at HF
  unfold fo
  go_enter Try.func10, Try.ntmps10
  go_wp2_with fail
  refine (HF _).mono ?_
  rintro e w2 ⟨rfl, hw⟩
  rw [hw]
  clear hw
  go_wp2_with fail
  refine bodyPost_ret_by (results_box_tmp rfl _ _ w.heap.size 23 _ (0, 0) _ rfl (two rfl).1 Try.underlying23 rfl (by kernel_rfl) (.int .i64 0) rfl) rfl ?_
  exact ⟨rfl, (two rfl).2.2.2⟩
set_option maxRecDepth 100000 in
set_option maxHeartbeats 4000000 in
theorem set_7 (w : World) : Calls Try.prog 10 #[.int .i64 7] w fun e w' => e = .returned (.tuple #[.agg (fo 1 16 63 7 12 14), .int .i64 0]) ∧ Below w.heap.size w w' := by
  have HF : ∀ w1, _ := fun w1 => family_any 7 w1
  rw [if_neg (by decide)] at HF
  unfold fo
  go_enter Try.func10, Try.ntmps10
  go_wp2_with fail
  refine (HF _).mono ?_
  rintro e w2 ⟨rfl, hw⟩
  rw [hw]
  clear hw
  go_wp2_with fail
  refine bodyPost_ret_by (results_box_tmp rfl _ _ w.heap.size 23 _ (0, 0) _ rfl (two rfl).1 Try.underlying23 rfl (by kernel_rfl) (.int .i64 0) rfl) rfl ?_
  exact ⟨rfl, (two rfl).2.2.2⟩
set_option maxRecDepth 100000 in
set_option maxHeartbeats 4000000 in
theorem set_8 (w : World) : Calls Try.prog 10 #[.int .i64 8] w fun e w' => e = .returned (.tuple #[.agg (fo 1 16 66 22 6 33), .int .i64 0]) ∧ Below w.heap.size w w' := by
  have HF : ∀ w1, _ := fun w1 => family_any 8 w1
  rw [if_neg (by decide)] at HF
  unfold fo
  go_enter Try.func10, Try.ntmps10
  go_wp2_with fail
  refine (HF _).mono ?_
  rintro e w2 ⟨rfl, hw⟩
  rw [hw]
  clear hw
  go_wp2_with fail
  refine bodyPost_ret_by (results_box_tmp rfl _ _ w.heap.size 23 _ (0, 0) _ rfl (two rfl).1 Try.underlying23 rfl (by kernel_rfl) (.int .i64 0) rfl) rfl ?_
  exact ⟨rfl, (two rfl).2.2.2⟩
set_option maxRecDepth 100000 in
set_option maxHeartbeats 4000000 in
theorem set_9 (w : World) : Calls Try.prog 10 #[.int .i64 9] w fun e w' => e = .returned (.tuple #[.agg (fo 1 24 63 7 14 17), .int .i64 0]) ∧ Below w.heap.size w w' := by
  have HF : ∀ w1, _ := fun w1 => family_any 9 w1
  rw [if_neg (by decide)] at HF
  unfold fo
  go_enter Try.func10, Try.ntmps10
  go_wp2_with fail
  refine (HF _).mono ?_
  rintro e w2 ⟨rfl, hw⟩
  rw [hw]
  clear hw
  go_wp2_with fail
  refine bodyPost_ret_by (results_box_tmp rfl _ _ w.heap.size 23 _ (0, 0) _ rfl (two rfl).1 Try.underlying23 rfl (by kernel_rfl) (.int .i64 0) rfl) rfl ?_
  exact ⟨rfl, (two rfl).2.2.2⟩
set_option maxRecDepth 100000 in
set_option maxHeartbeats 4000000 in
theorem set_10 (w : World) : Calls Try.prog 10 #[.int .i64 10] w fun e w' => e = .returned (.tuple #[.agg (fo 1 24 66 22 8 33), .int .i64 0]) ∧ Below w.heap.size w w' := by
  have HF : ∀ w1, _ := fun w1 => family_any 10 w1
  rw [if_neg (by decide)] at HF
  unfold fo
  go_enter Try.func10, Try.ntmps10
  go_wp2_with fail
  refine (HF _).mono ?_
  rintro e w2 ⟨rfl, hw⟩
  rw [hw]
  clear hw
  go_wp2_with fail
  refine bodyPost_ret_by (results_box_tmp rfl _ _ w.heap.size 23 _ (0, 0) _ rfl (two rfl).1 Try.underlying23 rfl (by kernel_rfl) (.int .i64 0) rfl) rfl ?_
  exact ⟨rfl, (two rfl).2.2.2⟩
set_option maxRecDepth 100000 in
set_option maxHeartbeats 4000000 in
theorem set_11 (w : World) : Calls Try.prog 10 #[.int .i64 11] w fun e w' => e = .returned (.tuple #[.agg (fo 1 32 64 8 14 22), .int .i64 0]) ∧ Below w.heap.size w w' := by
  have HF : ∀ w1, _ := fun w1 => family_any 11 w1
  rw [if_neg (by decide)] at HF
  unfold fo
  go_enter Try.func10, Try.ntmps10
  go_wp2_with fail
  refine (HF _).mono ?_
  rintro e w2 ⟨rfl, hw⟩
  rw [hw]
  clear hw
  go_wp2_with fail
  refine bodyPost_ret_by (results_box_tmp rfl _ _ w.heap.size 23 _ (0, 0) _ rfl (two rfl).1 Try.underlying23 rfl (by kernel_rfl) (.int .i64 0) rfl) rfl ?_
  exact ⟨rfl, (two rfl).2.2.2⟩
set_option maxRecDepth 100000 in
set_option maxHeartbeats 4000000 in
theorem set_12 (w : World) : Calls Try.prog 10 #[.int .i64 12] w fun e w' => e = .returned (.tuple #[.agg (fo 1 32 68 17 9 35), .int .i64 0]) ∧ Below w.heap.size w w' := by
  have HF : ∀ w1, _ := fun w1 => family_any 12 w1
  rw [if_neg (by decide)] at HF
  unfold fo
  go_enter Try.func10, Try.ntmps10
  go_wp2_with fail
  refine (HF _).mono ?_
  rintro e w2 ⟨rfl, hw⟩
  rw [hw]
  clear hw
  go_wp2_with fail
  refine bodyPost_ret_by (results_box_tmp rfl _ _ w.heap.size 23 _ (0, 0) _ rfl (two rfl).1 Try.underlying23 rfl (by kernel_rfl) (.int .i64 0) rfl) rfl ?_
  exact ⟨rfl, (two rfl).2.2.2⟩
set_option maxRecDepth 100000 in
set_option maxHeartbeats 4000000 in
theorem set_13 (w : World) : Calls Try.prog 10 #[.int .i64 13] w fun e w' => e = .returned (.tuple #[.agg (fo 1 4 1 1 2 2), .int .i64 0]) ∧ Below w.heap.size w w' := by
  have HF : ∀ w1, _ := fun w1 => family_any 13 w1
  rw [if_neg (by decide)] at HF
  unfold fo
  go_enter Try.func10, Try.ntmps10
  go_wp2_with fail
  refine (HF _).mono ?_
  rintro e w2 ⟨rfl, hw⟩
  rw [hw]
  clear hw
  go_wp2_with fail
  refine bodyPost_ret_by (results_box_tmp rfl _ _ w.heap.size 23 _ (0, 0) _ rfl (two rfl).1 Try.underlying23 rfl (by kernel_rfl) (.int .i64 0) rfl) rfl ?_
  exact ⟨rfl, (two rfl).2.2.2⟩
set_option maxRecDepth 100000 in
set_option maxHeartbeats 4000000 in
theorem set_14 (w : World) : Calls Try.prog 10 #[.int .i64 14] w fun e w' => e = .returned (.tuple #[.agg (fo 2 4 1 1 2 2), .int .i64 0]) ∧ Below w.heap.size w w' := by
  have HF : ∀ w1, _ := fun w1 => family_any 14 w1
  rw [if_pos (by decide)] at HF
  unfold fo
  go_enter Try.func10, Try.ntmps10
  go_wp2_with fail
  refine (HF _).mono ?_
  rintro e w2 ⟨rfl, hw⟩
  rw [hw]
  clear hw
  go_wp2_with fail
  refine bodyPost_ret_by (results_box_tmp rfl _ _ w.heap.size 23 _ (0, 0) _ rfl (two rfl).1 Try.underlying23 rfl (by kernel_rfl) (.int .i64 0) rfl) rfl ?_
  exact ⟨rfl, (two rfl).2.2.2⟩
set_option maxRecDepth 100000 in
set_option maxHeartbeats 4000000 in
theorem set_no (k : Int) (h : ¬ (1 ≤ k ∧ k ≤ 14)) (w : World) : Calls Try.prog 10 #[.int .i64 k] w fun e w' => e = .returned (.tuple #[.agg (fo 0 0 0 0 0 0), .int .i64 7]) ∧ Below w.heap.size w w' := by
  have HF : ∀ w1, _ := fun w1 => family_any k w1
  obtain ⟨f, hf⟩ : ∃ f : Int, (if k ≤ 6 ∨ k = 14 then 2 else 1 : Int) = f := ⟨_, rfl⟩
  rw [hf] at HF
  clear hf
  have q1 : k ≠ 1 := by omega
  have q2 : k ≠ 2 := by omega
  have q3 : k ≠ 3 := by omega
  have q4 : k ≠ 4 := by omega
  have q5 : k ≠ 5 := by omega
  have q6 : k ≠ 6 := by omega
  have q7 : k ≠ 7 := by omega
  have q8 : k ≠ 8 := by omega
  have q9 : k ≠ 9 := by omega
  have q10 : k ≠ 10 := by omega
  have q11 : k ≠ 11 := by omega
  have q12 : k ≠ 12 := by omega
  have q13 : k ≠ 13 := by omega
  have q14 : k ≠ 14 := by omega
  clear h
  unfold fo
  go_enter Try.func10, Try.ntmps10
  go_wp2_with fail
  refine (HF _).mono ?_
  rintro e w2 ⟨rfl, hw⟩
  rw [hw]
  clear hw
  go_wp2_with fail
  refine bodyPost_ret_by (results_box_tmp rfl _ _ w.heap.size 23 _ (0, 0) _ rfl (two rfl).1 Try.underlying23 rfl (by kernel_rfl) (.int .i64 7) rfl) rfl ?_
  exact ⟨rfl, (two rfl).2.2.2⟩
theorem set_any (k : Int) (w : World) : Calls Try.prog 10 #[.int .i64 k] w fun e w' => e = .returned (.tuple #[.agg (setA k), .int .i64 (setE k)]) ∧ Below w.heap.size w w' := by
  by_cases h : 1 ≤ k ∧ k ≤ 14
  · obtain rfl | rfl | rfl | rfl | rfl | rfl | rfl | rfl | rfl | rfl | rfl | rfl | rfl | rfl : k = 1 ∨ k = 2 ∨ k = 3 ∨ k = 4 ∨ k = 5 ∨ k = 6 ∨ k = 7 ∨ k = 8 ∨ k = 9 ∨ k = 10 ∨ k = 11 ∨ k = 12 ∨ k = 13 ∨ k = 14 := by omega
    · exact set_1 w
    · exact set_2 w
    · exact set_3 w
    · exact set_4 w
    · exact set_5 w
    · exact set_6 w
    · exact set_7 w
    · exact set_8 w
    · exact set_9 w
    · exact set_10 w
    · exact set_11 w
    · exact set_12 w
    · exact set_13 w
    · exact set_14 w
  · rw [show setA k = fo 0 0 0 0 0 0 by unfold setA; repeat rw [if_neg (by omega)], show setE k = 7 from if_neg h]
    exact set_no k h w
end Go.Proofs.Ythggakbomlgkhaa.adu
