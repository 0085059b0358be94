/-
  What bits.Long returns: the number of bits. Conditions: the number is an int.
-/
import Derived.Test.YtdlolhilmhlklaaDoorBiD
import Derived.Test.YtdlolhilmhlklaaDoorShelfL
namespace Go.Proofs.YtdlolhilmhlklaaDoor.plong
open Go Go.RowKit
open Go.Proofs.YtdlolhilmhlklaaDoor.arr Go.Proofs.YtdlolhilmhlklaaDoor.mem Go.Proofs.YtdlolhilmhlklaaDoor.rbita

theorem lbf_len (f : Nat) : ∀ n, Lib.bitLenAux f n = lbf f n := by
  induction f with
  | zero => intro n; rfl
  | succ f ih =>
    intro n
    rw [Lib.bitLenAux, lbf, ih]
    by_cases h : n = 0
    · rw [if_pos h, if_pos h]
    · rw [if_neg h, if_neg h]; omega
set_option maxRecDepth 100000 in
set_option maxHeartbeats 1000000 in
theorem len_any (x : Int) (h0 : 0 ≤ x) (h1 : x ≤ 18446744073709551615) (w : World) : Calls Tryd.prog 30 #[.int .u64 x] w fun e w' => e = .returned (.int .i64 ((lb x.toNat : Nat) : Int)) ∧ w' = w := by
  have H : ∀ w1 : World, Calls Tryd.prog 40 #[.int .u64 x] w1 fun e w' => e = .returned (.int .i64 ((lb x.toNat : Nat) : Int)) ∧ w' = w1 := fun w1 => by
    have h := shelf.len64 x w1 h0 h1
    rw [show Lib.bitLen x.toNat = lb x.toNat from lbf_len 64 _] at h
    exact h
  go_enter Tryd.func30, Tryd.ntmps30
  go_wp2_with fail
  refine (H _).mono ?_
  rintro e w1 ⟨rfl, rfl⟩
  go_wp2_with fail
  go_ret
  exact ⟨rfl, rfl⟩
set_option maxRecDepth 100000 in
set_option maxHeartbeats 1000000 in
theorem long_any (n : Int) (hn : n < 9223372036854775808) (w : World) : Calls Tryd.prog 18 #[.int .i64 n] w fun e w' => e = .returned (.int .i64 ((lb n.toNat : Nat) : Int)) ∧ w' = w := by
  by_cases h0 : 0 ≤ n
  · have H := fun w1 => len_any n h0 (by omega) w1
    have hmx : max n 0 = n := by omega
    have fu : IntKind.u64.wrap n = n := by rw [IntKind.wrap_u64]; omega
    go_enter Tryd.func18, Tryd.ntmps18
    go_wp2_with fail
    refine (H _).mono ?_
    rintro e w1 ⟨rfl, rfl⟩
    go_wp2_with fail
    go_ret
    exact ⟨rfl, rfl⟩
  · have H := fun w1 => len_any 0 (by decide) (by decide) w1
    have hz : n.toNat = (0 : Int).toNat := by omega
    rw [hz]
    have hmx : max n 0 = 0 := by omega
    have fu : IntKind.u64.wrap 0 = 0 := by decide
    go_enter Tryd.func18, Tryd.ntmps18
    go_wp2_with fail
    refine (H _).mono ?_
    rintro e w1 ⟨rfl, rfl⟩
    go_wp2_with fail
    go_ret
    exact ⟨rfl, rfl⟩
end Go.Proofs.YtdlolhilmhlklaaDoor.plong
