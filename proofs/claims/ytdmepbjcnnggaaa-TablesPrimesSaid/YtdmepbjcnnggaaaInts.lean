/-
  The law package's comparison of two slices of numbers returns true where they hold the same numbers; memory stays as it was. Conditions: at most 100 numbers.
-/
import Derived.Test.YtdmepbjcnnggaaaProg
import Derived.Test.YtdmepbjcnnggaaaArr
namespace Go.Proofs.Ytdmepbjcnnggaaa.ints2
open Go.RowKit
open Go.Proofs.Ytdmepbjcnnggaaa.arr

set_option maxHeartbeats 400000 in
theorem ints_nil (a b : Option Addr) (ca cb : Nat) (w : World) :
    Calls Try.prog 8 #[.slice a 0 ca, .slice b 0 cb] w fun e w' => e = .returned (.bool true) ∧ Below w.heap.size w w' := by
  go_enter Try.func8, Try.ntmps8
  go_wp2_with fail
  refine wp_loop_rounds 1 ?_
  rw [rounds_succ]
  go_wp2_with fail
  go_ret
  exact ⟨rfl, Below.refl _ _⟩
set_option maxHeartbeats 400000 in
theorem ints_some (xs : List Nat) (n g g2 ca cb : Nat) (w : World) (hn : n ≤ 100)
    (hc : ∀ j, j < n → w.cell? ⟨g, j, none⟩ = some (.int .i64 (xs.getD j 0 : Nat))) (hc2 : ∀ j, j < n → w.cell? ⟨g2, j, none⟩ = some (.int .i64 (xs.getD j 0 : Nat))) :
    Calls Try.prog 8 #[.slice (some ⟨g, 0, none⟩) n ca, .slice (some ⟨g2, 0, none⟩) n cb] w fun e w' => e = .returned (.bool true) ∧ Below w.heap.size w w' := by
  have Hc := Away.mk hc
  have Hc2 := Away.mk hc2
  clear hc hc2
  go_enter Try.func8, Try.ntmps8
  go_wp2_with fail
  go_loopw [13] (fun i wr => ∃ k q : Nat, k ≤ n ∧ i = .int .i64 k ∧ wr = w.drewN q) (fun i _ => n - (intOf i).toNat)
  case atStart => exact ⟨0, 0, Nat.zero_le _, rfl, rfl⟩
  case round =>
    obtain ⟨k, q, hk, rfl, rfl⟩ := hrel
    by_cases hlt : k < n
    · have h1 := Hc.out k hlt
      have h2 := Hc2.out k hlt
      obtain ⟨p, hp⟩ : ∃ p, xs.getD k 0 = p := ⟨_, rfl⟩
      rw [hp] at h1 h2
      clear hp
      go_wp2_with fail
      go_quiet (fail)
      go_wp2_with fail
      go_roundw
      case rel => exact ⟨k + 1, _, by omega, by go_num, rfl⟩
      case measure => simp [intOf]; omega
    · obtain rfl : k = n := by omega
      go_wp2_with fail
      go_ret
      exact ⟨rfl, below_drewN (Below.refl _ _) _⟩
end Go.Proofs.Ytdmepbjcnnggaaa.ints2
