/-
  What adrs.above returns: each number without its least significant byte. Conditions: the numbers are of their types.
-/
import Derived.Test.YthggakbomlgkhaaAdM
namespace Go.Proofs.Ythggakbomlgkhaa.adb
open Go Go.RowKit
open Go.Proofs.Ythggakbomlgkhaa.arr Go.Proofs.Ythggakbomlgkhaa.mem Go.Proofs.Ythggakbomlgkhaa.stil Go.Proofs.Ythggakbomlgkhaa.boxt Go.Proofs.Ythggakbomlgkhaa.adm

set_option maxRecDepth 100000 in
set_option maxHeartbeats 1000000 in
theorem above_any (l t u p h o : Nat) (k : Int) (w : World) (hk : IntKind.u64.wrap k = (u : Int)) (hu : u < 18446744073709551616) :
    Calls Try.prog 31 #[.agg (ad l t k p h o)] w fun e w' => e = .returned (.agg (ad (l / 256 : Nat) (t / 256 : Nat) ((u / 256 : Nat) : Int) (p / 256 : Nat) (h / 256 : Nat) (o / 256 : Nat))) ∧ Below w.heap.size w w' := by
  have e : ∀ x : Nat, ((x / 256 : Nat) : Int) = (x : Int) / 256 := fun x => by omega
  rw [e l, e t, e u, e p, e h, e o]
  clear e
  unfold ad
  go_enter Try.func31, Try.ntmps31
  go_wp2_with fail
  refine bodyPost_ret_by (results_cell_row rfl _ _ (w.heap.size + 1) 26 _ (0, 0) _ rfl (two rfl).2.1 Try.underlying26 rfl (by kernel_rfl)) rfl ?_
  exact ⟨rfl, (two rfl).2.2.2⟩
end Go.Proofs.Ythggakbomlgkhaa.adb
