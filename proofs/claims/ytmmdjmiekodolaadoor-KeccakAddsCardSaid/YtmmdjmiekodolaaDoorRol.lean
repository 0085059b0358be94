/-
  What the turning functions of layer 5 return: a word turned to the left. Conditions: the word has its 64 bits, and the amount is not negative.
-/
import Derived.Test.YtmmdjmiekodolaaDoorProg
import Derived.Test.YtmmdjmiekodolaaDoorKc
namespace Go.Proofs.YtmmdjmiekodolaaDoor.rols
open Go.RowKit
open Go.Proofs.YtmmdjmiekodolaaDoor.arr Go.Proofs.YtmmdjmiekodolaaDoor.kecm

theorem castm (x m M : Nat) : (x : Int) * 2 ^ m % (M : Int) = ((x * 2 ^ m % M : Nat) : Int) := by push_cast; rfl
theorem castd (x n : Nat) : (x : Int) / 2 ^ n = ((x / 2 ^ n : Nat) : Int) := by push_cast; rfl
theorem orl (x n m : Nat) (hm : m = 64 - n) (hx : x < 18446744073709551616) : bits .or .u64 ((x : Int) * 2 ^ n % 18446744073709551616) ((x : Int) / 2 ^ m) = ((rol x n : Nat) : Int) := by
  subst hm
  have e := castm x n 18446744073709551616
  have e2 := castd x (64 - n)
  rw [e2, show (x : Int) * 2 ^ n % 18446744073709551616 = ((x * 2 ^ n % 18446744073709551616 : Nat) : Int) from e]
  rw [u64_or_nat _ _ (Nat.mod_lt _ (by decide)) (Nat.lt_of_le_of_lt (Nat.div_le_self _ _) hx)]
  rfl
theorem mask (k : Nat) (hk : k < 9223372036854775808) : bits .and .u64 (k : Int) 63 = ((k % 64 : Nat) : Int) := by
  have := u64_and_nat k 63 (by omega) (by decide)
  rw [show ((63 : Nat) : Int) = 63 from rfl] at this
  rw [this, nat_mask6]

set_option maxRecDepth 100000 in
set_option maxHeartbeats 1000000 in
theorem rotl_any (x k : Nat) (w : World) (hx : x < 18446744073709551616) (hk : k < 9223372036854775808) :
    Calls Tryd.prog 38 #[.int .u64 (x : Int), .int .i64 (k : Int)] w fun e w' => e = .returned (.int .u64 ((rol x (k % 64) : Nat) : Int)) ∧ w' = w := by
  have hq := mask k hk
  have hw : IntKind.u64.wrap (k : Int) = (k : Int) := by rw [IntKind.wrap_u64]; omega
  obtain ⟨n, hn⟩ : ∃ n, k % 64 = n := ⟨_, rfl⟩
  rw [hn] at hq ⊢
  have hn63 : n ≤ 63 := by omega
  clear hn
  go_enter Tryd.func38, Tryd.ntmps38
  go_wp2_with fail
  go_ret
  exact ⟨ret_int (orl x n (64 - n) rfl hx), rfl⟩
set_option maxRecDepth 100000 in
set_option maxHeartbeats 1000000 in
theorem left_any (x k : Nat) (w : World) (hx : x < 18446744073709551616) (hk : k < 9223372036854775808) :
    Calls Tryd.prog 27 #[.int .u64 (x : Int), .int .i64 (k : Int)] w fun e w' => e = .returned (.int .u64 ((rol x (k % 64) : Nat) : Int)) ∧ w' = w := by
  have hq := mask k hk
  have hw : IntKind.u64.wrap (k : Int) = (k : Int) := by rw [IntKind.wrap_u64]; omega
  obtain ⟨n, hn⟩ : ∃ n, k % 64 = n := ⟨_, rfl⟩
  rw [hn] at hq ⊢
  have hn63 : n ≤ 63 := by omega
  clear hn
  by_cases h0 : n = 0
  · subst h0
    have h1 : bits .and .u64 (k : Int) 63 = 0 := hq
    have h2 : bits .and .u64 64 63 = 0 := by decide +kernel
    clear hq hn63
    have h3 : bits .or .u64 (x : Int) (x : Int) = (x : Int) := by rw [u64_or_nat x x hx hx, Nat.or_self]
    have h4 : (x : Int) < 18446744073709551616 := by omega
    rw [rol_zero x hx]
    go_enter Tryd.func27, Tryd.ntmps27
    go_wp2_with fail
    go_ret
    exact ⟨rfl, rfl⟩
  · obtain ⟨m, hm⟩ : ∃ m, m = 64 - n := ⟨_, rfl⟩
    have Hm := Away.mk hm
    have h2 : bits .and .u64 (64 - (n : Int)) 63 = (m : Int) := by
      have h := mask (64 - n) (by omega)
      rw [show ((64 - n : Nat) : Int) = 64 - (n : Int) by omega] at h
      rw [h]
      omega
    have hm63 : m ≤ 63 := by omega
    have hn1 : 1 ≤ n := by omega
    clear hm h0
    go_enter Tryd.func27, Tryd.ntmps27
    go_wp2_with fail
    go_ret
    exact ⟨ret_int (orl x n m Hm.out hx), rfl⟩
end Go.Proofs.YtmmdjmiekodolaaDoor.rols
