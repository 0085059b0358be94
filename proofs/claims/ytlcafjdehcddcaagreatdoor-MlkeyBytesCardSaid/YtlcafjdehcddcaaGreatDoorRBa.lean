/-
  What the document's own Long of layer 10 returns. Conditions: none.
-/
import Derived.Test.YtlcafjdehcddcaaGreatDoorPuA
namespace Go.Proofs.YtlcafjdehcddcaaGreatDoor
namespace rbita
open Go Go.RowKit
open arr mem
set_option maxRecDepth 100000 in
set_option maxHeartbeats 1000000 in
theorem long_any (n : Int) (hn : n < 9223372036854775808) (w : World) : Calls Tryz.prog 36 #[.int .i64 n] w fun e w' => e = .returned (.int .i64 ((lb n.toNat : Nat) : Int)) ∧ w' = w := by
 go_enter Tryz.func36, Tryz.ntmps36
 go_wp2_with fail
 go_loopw [0, 3] (fun v k wr => wr = w ∧ ∃ (z : Int) (c : Nat), v = .int .i64 z ∧ k = .int .i64 (c : Int) ∧ z < 9223372036854775808 ∧ c + lb z.toNat = lb n.toNat ∧ c ≤ 64) (fun v _ _ => (intOf v).toNat)
 case atStart => exact ⟨rfl, n, 0, rfl, rfl, hn, by omega, by omega⟩
 case round =>
  obtain ⟨rfl, z, c, rfl, rfl, hz, hc, hc64⟩ := hrel
  by_cases h0 : 0 < z
  ·have hb := lb_half z.toNat (by omega) (by omega)
   have hs := (lbf_spec 64 z.toNat (by omega)).2.2
   have hn64 := (lbf_spec 64 n.toNat (by omega)).2.2
   have hn64' : lb n.toNat ≤ 64 := hn64
   go_wp2_with fail
   go_roundw
   case rel => exact ⟨by first | trivial | rfl, z / 2, c + 1, by go_num, by go_num, by omega, by rw [show (z / 2).toNat = z.toNat / 2 by omega]; omega, by omega⟩
   case measure => simp [intOf]; omega
  ·have hz0 : z.toNat = 0 := by omega
   have hl : lb 0 = 0 := rfl
   rw [hz0, hl, Nat.add_zero] at hc
   go_wp2_with fail
   go_ret
   exact ⟨rfl, rfl⟩
end rbita
end Go.Proofs.YtlcafjdehcddcaaGreatDoor
