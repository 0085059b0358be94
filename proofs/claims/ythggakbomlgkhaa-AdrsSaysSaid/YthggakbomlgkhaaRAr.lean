/-
  What the reference's Right and whole return, for any six numbers; whole for a small number. Conditions: as each theorem says.
-/
import Derived.Test.YthggakbomlgkhaaRArA
import Derived.Test.YthggakbomlgkhaaRArB
import Derived.Test.YthggakbomlgkhaaRArC
namespace Go.Proofs.Ythggakbomlgkhaa.rar
open Go Go.RowKit
open Go.Proofs.Ythggakbomlgkhaa.arr Go.Proofs.Ythggakbomlgkhaa.mem Go.Proofs.Ythggakbomlgkhaa.adm

set_option maxRecDepth 100000 in
set_option maxHeartbeats 1000000 in
theorem whole_any (n : Nat) (h : n ≤ 100000) (w : World) : Calls Try.prog 24 #[.int .i64 (n : Int)] w fun e w' => e = .returned (.int .i64 (((n + 7) / 8 : Nat) : Int)) ∧ w' = w := by
  obtain ⟨M, hM⟩ := ex_eq ((n + 7) / 8)
  have f3 : ((n : Int) + 7) / 8 = (M : Int) := by rw [← hM.out]; omega
  rw [hM.out]
  go_enter Try.func24, Try.ntmps24
  go_wp2_with fail
  go_ret
  exact ⟨ret_int f3, rfl⟩
theorem right_any (f n h d a k : Int) (w : World) : Calls Try.prog 13 #[.agg (fo f n h d a k)] w fun e w' => e = .returned (.bool (decide (okF f n h d a k))) ∧ Below w.heap.size w w' := by
  by_cases hf : f = 2 ∨ f = 1
  rotate_left
  · rw [decide_eq_false (fun q => hf q.1)]
    exact bad_f f n h d a k w (fun q => hf (Or.inl q)) (fun q => hf (Or.inr q))
  by_cases h0 : 2 ≤ n
  rotate_left
  · rw [decide_eq_false (fun q => h0 q.2.1.1)]
    exact bad_0 f n h d a k w hf  h0
  by_cases h1 : n ≤ 32
  rotate_left
  · rw [decide_eq_false (fun q => h1 q.2.1.2)]
    exact bad_1 f n h d a k w hf h0 h1
  by_cases h2 : 1 ≤ d
  rotate_left
  · rw [decide_eq_false (fun q => h2 q.2.2.1.1)]
    exact bad_2 f n h d a k w hf h0 h1 h2
  by_cases h3 : d ≤ 22
  rotate_left
  · rw [decide_eq_false (fun q => h3 q.2.2.1.2)]
    exact bad_3 f n h d a k w hf h0 h1 h2 h3
  by_cases h4 : 1 ≤ h
  rotate_left
  · rw [decide_eq_false (fun q => h4 q.2.2.2.1.1)]
    exact bad_4 f n h d a k w hf h0 h1 h2 h3 h4
  by_cases h5 : h ≤ 68
  rotate_left
  · rw [decide_eq_false (fun q => h5 q.2.2.2.1.2)]
    exact bad_5 f n h d a k w hf h0 h1 h2 h3 h4 h5
  by_cases h6 : h % d = 0
  rotate_left
  · rw [decide_eq_false (fun q => h6 q.2.2.2.2.2.2.1)]
    exact bad_6 f n h d a k w hf h0 h1 h2 h3 h4 h5 h6
  by_cases h7 : h / d ≤ 9
  rotate_left
  · rw [decide_eq_false (fun q => h7 q.2.2.2.2.2.2.2)]
    exact bad_7 f n h d a k w hf h0 h1 h2 h3 h4 h5 h6 h7
  by_cases h8 : 1 ≤ a
  rotate_left
  · rw [decide_eq_false (fun q => h8 q.2.2.2.2.1.1)]
    exact bad_8 f n h d a k w hf h0 h1 h2 h3 h4 h5 h6 h7 h8
  by_cases h9 : a ≤ 14
  rotate_left
  · rw [decide_eq_false (fun q => h9 q.2.2.2.2.1.2)]
    exact bad_9 f n h d a k w hf h0 h1 h2 h3 h4 h5 h6 h7 h8 h9
  by_cases h10 : 1 ≤ k
  rotate_left
  · rw [decide_eq_false (fun q => h10 q.2.2.2.2.2.1.1)]
    exact bad_10 f n h d a k w hf h0 h1 h2 h3 h4 h5 h6 h7 h8 h9 h10
  rw [show decide (okF f n h d a k) = decide (k ≤ 35) from decide_eq_decide.2 ⟨fun q => q.2.2.2.2.2.1.2, fun q => ⟨hf, ⟨h0, h1⟩, ⟨h2, h3⟩, ⟨h4, h5⟩, ⟨h8, h9⟩, ⟨h10, q⟩, h6, h7⟩⟩]
  exact last f n h d a k w hf h0 h1 h2 h3 h4 h5 h6 h7 h8 h9 h10
end Go.Proofs.Ythggakbomlgkhaa.rar
