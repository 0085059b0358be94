/-
  What tables.Power and the reference's Power return, for any two numbers: x to the power n modulo the prime, or 0 if one of them is negative. Conditions: none but that the numbers are ints.
-/
import Derived.Test.YthfljfampfioaaaProg
import Derived.Test.YthfljfampfioaaaTabM
import Derived.WalkKit
import Derived.WalkSpells
import Derived.WalkLawsBesides
import Derived.Lib.Hide
import Derived.IntWalk
import Derived.Laws.BitsLemmas
namespace Go.Proofs.Ythfljfampfioaaa.power
open Go.RowKit
open Go.Proofs.Ythfljfampfioaaa.tabm

theorem cast_mm (a b : Nat) : Value.int .i64 ((a : Int) * (b : Int) % 8380417) = .int .i64 ((a * b % 8380417 : Nat) : Int) :=
  congrArg (Value.int .i64) (by rw [Int.natCast_emod, Int.natCast_mul]; rfl)
theorem ret_int {k : IntKind} {a b : Int} (h : a = b) : Ending.returned (.int k a) = .returned (.int k b) := by rw [h]
theorem cast_half (m : Nat) : Value.int .i64 ((m : Int) / 2) = .int .i64 ((m / 2 : Nat) : Int) :=
  congrArg (Value.int .i64) (by omega)
theorem mul_bd (R S : Nat) (hR : R < 8380417) (hS : S < 8380417) : (0 : Int) ≤ (R : Int) * (S : Int) ∧ (R : Int) * (S : Int) ≤ 70231372333056 := by
  have h1 : R * S ≤ 8380416 * 8380416 := Nat.mul_le_mul (by omega) (by omega)
  have h2 : (R : Int) * (S : Int) = ((R * S : Nat) : Int) := by norm_cast
  rw [h2]
  omega
theorem and_one_i64 (m : Nat) (hm : m ≤ 9223372036854775807) : bits .and .i64 (m : Int) 1 = (m : Int) % 2 := by
  have h := bits_mask .i64 63 (by decide) (fun n h0 h1 => IntWalk.i64_in n (by omega)) 1 (by decide) (m : Int) (by omega) (by omega)
  simpa using h
def Keeps (x n : Nat) (n' r s : Value) : Prop := ∃ m R S : Nat, m ≤ 9223372036854775807 ∧ R < 8380417 ∧ S < 8380417 ∧ n' = .int .i64 m ∧ r = .int .i64 R ∧ s = .int .i64 S ∧ pwk x n R S m

set_option maxHeartbeats 400000 in
theorem power_nn (x n : Nat) (w : World) (hx : x ≤ 9223372036854775807) (hn : n ≤ 9223372036854775807) :
    Calls Try.prog 60 #[.int .i64 x, .int .i64 n] w fun e w' => e = .returned (.int .i64 (pw x n)) ∧ w = w' := by
  have hst := pwk_start x n
  go_enter Try.func60, Try.ntmps60
  go_wp2
  go_loop [1, 5, 6] (fun n' r s => Keeps x n n' r s) (fun n' _ _ => (intOf n').toNat)
  case atStart => exact ⟨n, 1, x % 8380417, hn, by decide, Nat.mod_lt _ (by decide), rfl, rfl, by first | rfl | exact congrArg (Value.int .i64) (by norm_cast), hst⟩
  case round =>
    obtain ⟨m, R, S, hm, hR, hS, rfl, rfl, rfl, hk⟩ := hrel
    have hRS := mul_bd R S hR hS
    have hSS := mul_bd S S hS hS
    by_cases h0 : m = 0
    · subst h0
      go_wp2
      go_ret
      exact ⟨ret_int (congrArg Nat.cast (pwk_end x n R S hk hR)), rfl⟩
    · by_cases h1 : m % 2 = 1
      · have ho := pwk_odd x n R S m hk h1
        have hb : ((m : Int) % 2 == 1) = true := beq_iff_eq.2 (by omega)
        clear h1 hk hst
        go_wp2
        go_round
        case rel => exact ⟨m / 2, R * S % 8380417, S * S % 8380417, by omega, Nat.mod_lt _ (by decide), Nat.mod_lt _ (by decide), cast_half m, cast_mm R S, cast_mm S S, ho⟩
        case measure => simp [intOf]; omega
      · have ho := pwk_even x n R S m hk (by omega)
        have hb : ((m : Int) % 2 == 1) = false := beq_eq_false_iff_ne.2 (by omega)
        clear h1 hk hst
        go_wp2
        go_round
        case rel => exact ⟨m / 2, R, S * S % 8380417, by omega, hR, Nat.mod_lt _ (by decide), cast_half m, rfl, cast_mm S S, ho⟩
        case measure => simp [intOf]; omega
theorem power_neg (x n : Int) (w : World) (h : x < 0 ∨ n < 0) :
    Calls Try.prog 60 #[.int .i64 x, .int .i64 n] w fun e w' => e = .returned (.int .i64 0) ∧ w = w' := by
  by_cases h1 : x < 0
  · clear h
    go_enter Try.func60, Try.ntmps60
    go_wp2
    go_ret
    exact ⟨rfl, rfl⟩
  · have h2 : n < 0 := by omega
    clear h
    go_enter Try.func60, Try.ntmps60
    go_wp2
    go_ret
    exact ⟨rfl, rfl⟩
theorem power_any (x n : Int) (w : World) (hx : x ≤ 9223372036854775807) (hn : n ≤ 9223372036854775807) :
    Calls Try.prog 60 #[.int .i64 x, .int .i64 n] w fun e w' => e = .returned (.int .i64 (pwI x n)) ∧ w = w' := by
  unfold pwI
  by_cases h : x < 0 ∨ n < 0
  · rw [if_pos h]
    exact power_neg x n w h
  · rw [if_neg h]
    obtain ⟨a, rfl⟩ := Int.eq_ofNat_of_zero_le (show 0 ≤ x by omega)
    obtain ⟨b, rfl⟩ := Int.eq_ofNat_of_zero_le (show 0 ≤ n by omega)
    rw [Int.toNat_natCast, Int.toNat_natCast]
    exact power_nn a b w (by omega) (by omega)

/-! ### The reference -/
set_option maxHeartbeats 400000 in
theorem rpower_nn (x n : Nat) (w : World) (hx : x ≤ 9223372036854775807) (hn : n ≤ 9223372036854775807) :
    Calls Try.prog 24 #[.int .i64 x, .int .i64 n] w fun e w' => e = .returned (.int .i64 (pw x n)) ∧ w = w' := by
  have hst := pwk_start x n
  go_enter Try.func24, Try.ntmps24
  go_wp2
  go_loop [1, 5, 0] (fun n' r s => Keeps x n n' r s) (fun n' _ _ => (intOf n').toNat)
  case atStart => exact ⟨n, 1, x % 8380417, hn, by decide, Nat.mod_lt _ (by decide), rfl, rfl, by first | rfl | exact congrArg (Value.int .i64) (by norm_cast), hst⟩
  case round =>
    obtain ⟨m, R, S, hm, hR, hS, rfl, rfl, rfl, hk⟩ := hrel
    have hRS := mul_bd R S hR hS
    have hSS := mul_bd S S hS hS
    by_cases h0 : m = 0
    · subst h0
      go_wp2
      go_ret
      exact ⟨ret_int (congrArg Nat.cast (pwk_end x n R S hk hR)), rfl⟩
    · by_cases h1 : m % 2 = 1
      · have ho := pwk_odd x n R S m hk h1
        have hb : (bits .and .i64 (m : Int) 1 == 1) = true := by rw [and_one_i64 m hm]; exact beq_iff_eq.2 (by omega)
        clear h1 hk hst
        go_wp2
        go_round
        case rel => exact ⟨m / 2, R * S % 8380417, S * S % 8380417, by omega, Nat.mod_lt _ (by decide), Nat.mod_lt _ (by decide), cast_half m, cast_mm R S, cast_mm S S, ho⟩
        case measure => simp [intOf]; omega
      · have ho := pwk_even x n R S m hk (by omega)
        have hb : (bits .and .i64 (m : Int) 1 == 1) = false := by rw [and_one_i64 m hm]; exact beq_eq_false_iff_ne.2 (by omega)
        clear h1 hk hst
        go_wp2
        go_round
        case rel => exact ⟨m / 2, R, S * S % 8380417, by omega, hR, Nat.mod_lt _ (by decide), cast_half m, rfl, cast_mm S S, ho⟩
        case measure => simp [intOf]; omega
theorem rpower_neg (x n : Int) (w : World) (h : x < 0 ∨ n < 0) :
    Calls Try.prog 24 #[.int .i64 x, .int .i64 n] w fun e w' => e = .returned (.int .i64 0) ∧ w = w' := by
  by_cases h1 : x < 0
  · clear h
    go_enter Try.func24, Try.ntmps24
    go_wp2
    go_ret
    exact ⟨rfl, rfl⟩
  · have h2 : n < 0 := by omega
    clear h
    go_enter Try.func24, Try.ntmps24
    go_wp2
    go_ret
    exact ⟨rfl, rfl⟩
theorem rpower_any (x n : Int) (w : World) (hx : x ≤ 9223372036854775807) (hn : n ≤ 9223372036854775807) :
    Calls Try.prog 24 #[.int .i64 x, .int .i64 n] w fun e w' => e = .returned (.int .i64 (pwI x n)) ∧ w = w' := by
  unfold pwI
  by_cases h : x < 0 ∨ n < 0
  · rw [if_pos h]
    exact rpower_neg x n w h
  · rw [if_neg h]
    obtain ⟨a, rfl⟩ := Int.eq_ofNat_of_zero_le (show 0 ≤ x by omega)
    obtain ⟨b, rfl⟩ := Int.eq_ofNat_of_zero_le (show 0 ≤ n by omega)
    rw [Int.toNat_natCast, Int.toNat_natCast]
    exact rpower_nn a b w (by omega) (by omega)
end Go.Proofs.Ythfljfampfioaaa.power
