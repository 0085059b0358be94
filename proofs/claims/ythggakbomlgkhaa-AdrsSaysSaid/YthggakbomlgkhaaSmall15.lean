/-
  What the law package's small and ints return. Conditions: the numbers are of their types.
-/
import Derived.Test.YthggakbomlgkhaaAdM
import Derived.Test.YthggakbomlgkhaaAdD
namespace Go.Proofs.Ythggakbomlgkhaa.small15
open Go Go.RowKit
open Go.Proofs.Ythggakbomlgkhaa.arr Go.Proofs.Ythggakbomlgkhaa.mem Go.Proofs.Ythggakbomlgkhaa.stil Go.Proofs.Ythggakbomlgkhaa.boxt Go.Proofs.Ythggakbomlgkhaa.adm Go.Proofs.Ythggakbomlgkhaa.addg

set_option maxRecDepth 100000 in
set_option maxHeartbeats 1000000 in
theorem small_any (l t p h o : Nat) (k : Int) (u : Nat) (w : World) (hu : (IntKind.u64.wrap k).tmod 256 = (u : Int)) (hu2 : u < 256) :
    Calls Try.prog 21 #[.agg (ad l t k p h o)] w fun e w' => e = .returned (.agg (ad (l % 256 : Nat) t (u : Int) (p % 4294967296 : Nat) (h % 4294967296 : Nat) (o % 4294967296 : Nat))) ∧ Below w.heap.size w w' := by
  have e1 : ((l % 256 : Nat) : Int) = (l : Int) % 256 := by omega
  have e : ∀ x : Nat, ((x % 4294967296 : Nat) : Int) = (x : Int) % 4294967296 := fun x => by omega
  rw [e1, e p, e h, e o]
  clear e e1
  unfold ad
  go_enter Try.func21, Try.ntmps21
  go_wp2_with fail
  refine bodyPost_ret_by (results_cell_row rfl _ _ (w.heap.size + 1) 26 _ (0, 0) _ rfl (two rfl).2.1 Try.underlying26 rfl (by kernel_rfl)) rfl ?_
  exact ⟨rfl, (two rfl).2.2.2⟩
theorem ro_open {w : World} {B : Nat} {v : Value} {n : Nat} {x : Nat → Int} (h : Ro w B v n x) : ∃ p cap, v = .slice p n cap ∧ ∀ j, j < n → ∃ g, p = some ⟨g, 0, none⟩ ∧ g < w.heap.size ∧ w.cell? ⟨g, j, none⟩ = some (.int .i64 (x j)) := by
  rcases h with ⟨rfl, rfl⟩ | ⟨g, cap, C, rfl, hb, hg, hc⟩
  · exact ⟨none, 0, rfl, fun j hj => by omega⟩
  · exact ⟨_, cap, rfl, fun j hj => ⟨g, rfl, lt_of_row hg, cell_at hg (hc j hj)⟩⟩
set_option maxRecDepth 100000 in
set_option maxHeartbeats 1000000 in
theorem ints_any (n B B' : Nat) (hn : n ≤ 50000) (va vb : Value) (x : Nat → Int) (w : World) (ha : Ro w B va n x) (hb : Ro w B' vb n x) :
    Calls Try.prog 18 #[va, vb] w fun e w' => e = .returned (.bool true) ∧ Below w.heap.size w w' := by
  obtain ⟨p, cp, rfl, Ha⟩ := ro_open ha
  obtain ⟨q, cq, rfl, Hb⟩ := ro_open hb
  have HA := Away.mk Ha
  have HB := Away.mk Hb
  clear ha hb Ha Hb
  go_enter Try.func18, Try.ntmps18
  go_wp2_with fail
  go_loopw [13] (fun i wr => ∃ k : Nat, k ≤ n ∧ i = .int .i64 (k : Int) ∧ Away (Below w.heap.size w wr)) (fun i _ => n - (intOf i).toNat)
  case atStart => exact ⟨0, Nat.zero_le _, rfl, ⟨Below.refl _ _⟩⟩
  case round =>
    obtain ⟨k, hk, rfl, hW⟩ := hrel
    by_cases hlt : k < n
    · obtain ⟨g, rfl, hg, hc⟩ := HA.out k hlt
      obtain ⟨g', rfl, hg', hc'⟩ := HB.out k hlt
      have c1 : wr.cell? ⟨g, k, none⟩ = some (.int .i64 (x k)) := (hW.out.cell (p := ⟨g, k, none⟩) hg).trans hc
      have c2 : wr.cell? ⟨g', k, none⟩ = some (.int .i64 (x k)) := (hW.out.cell (p := ⟨g', k, none⟩) hg').trans hc'
      obtain ⟨z, hz⟩ : ∃ z, x k = z := ⟨_, rfl⟩
      rw [hz] at c1 c2
      clear hc hc' hz
      go_wp2_with fail
      refine still_all (by kernel_rfl) (by kernel_rfl) ?_
      repeat still_step
      refine wpStill_nil ?_
      go_wp2_with fail
      go_roundw
      case rel => exact ⟨k + 1, by omega, by go_num, ⟨hW.out.drew⟩⟩
      case measure => simp [intOf]; omega
    · obtain rfl : k = n := by omega
      go_wp2_with fail
      go_ret
      exact ⟨rfl, hW.out⟩
end Go.Proofs.Ythggakbomlgkhaa.small15
