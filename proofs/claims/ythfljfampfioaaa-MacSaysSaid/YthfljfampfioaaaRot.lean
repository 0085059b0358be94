/-
  What the turning functions of layer 3 return: a word turned to the right. Conditions: the word has its bits, and the amount is less than their number.
-/
import Derived.Test.YthfljfampfioaaaProg
import Derived.Test.YthfljfampfioaaaArr
namespace Go.Proofs.Ythfljfampfioaaa.rot
open Go.RowKit
open Go.Proofs.Ythfljfampfioaaa.arr

/-- x turned to the right by n, of b bits -/
def rr (b x n : Nat) : Nat := x / 2 ^ n ||| x * 2 ^ (b - n) % 2 ^ b
theorem rr_lt (b x n : Nat) (hx : x < 2 ^ b) : rr b x n < 2 ^ b :=
  Nat.or_lt_two_pow (Nat.lt_of_le_of_lt (Nat.div_le_self _ _) hx) (Nat.mod_lt _ (Nat.two_pow_pos b))
theorem castm (x m M : Nat) : (x : Int) * 2 ^ m % (M : Int) = ((x * 2 ^ m % M : Nat) : Int) := by push_cast; rfl
theorem castd (x n : Nat) : (x : Int) / 2 ^ n = ((x / 2 ^ n : Nat) : Int) := by push_cast; rfl

theorem or32 (x n : Nat) (hx : x < 4294967296) : bits .or .u32 ((x : Int) / 2 ^ n) ((x : Int) * 2 ^ (32 - n) % 4294967296) = ((rr 32 x n : Nat) : Int) := by
  have e := castm x (32 - n) 4294967296
  have e2 := castd x n
  rw [e2, show (x : Int) * 2 ^ (32 - n) % 4294967296 = ((x * 2 ^ (32 - n) % 4294967296 : Nat) : Int) from e]
  rw [u32_or_nat _ _ (Nat.lt_of_le_of_lt (Nat.div_le_self _ _) hx) (Nat.mod_lt _ (by decide))]
  rfl
theorem or'32 (x n m : Nat) (hm : m = 32 - n) (hn : n ≤ 32) (hx : x < 4294967296) : bits .or .u32 ((x : Int) * 2 ^ m % 4294967296) ((x : Int) / 2 ^ (32 - m)) = ((rr 32 x n : Nat) : Int) := by
  subst hm
  have e := castm x (32 - n) 4294967296
  have e2 := castd x n
  rw [show 32 - (32 - n) = n by omega, e2, show (x : Int) * 2 ^ (32 - n) % 4294967296 = ((x * 2 ^ (32 - n) % 4294967296 : Nat) : Int) from e]
  rw [u32_or_nat _ _ (Nat.mod_lt _ (by decide)) (Nat.lt_of_le_of_lt (Nat.div_le_self _ _) hx), Nat.or_comm]
  rfl
theorem mask32 (n : Nat) (hn : n ≤ 31) (h0 : 1 ≤ n) : bits .and .u64 (IntKind.u64.wrap (-(n : Int))) 31 = ((32 - n : Nat) : Int) := by
  have e : IntKind.u64.wrap (-(n : Int)) = ((18446744073709551616 - n : Nat) : Int) := by rw [IntKind.wrap_u64]; omega
  rw [e]
  have := u64_and_nat (18446744073709551616 - n) 31 (by omega) (by decide)
  rw [show ((31 : Nat) : Int) = 31 from rfl] at this
  rw [this, nat_mask5]
  congr 1
  omega

set_option maxRecDepth 100000 in
set_option maxHeartbeats 1000000 in
theorem right32_any (x n : Nat) (w : World) (hx : x < 4294967296) (hn : n ≤ 31) (h0 : 1 ≤ n) :
    Calls Try.prog 69 #[.int .u32 (x : Int), .int .i64 (n : Int)] w fun e w' => e = .returned (.int .u32 ((rr 32 x n : Nat) : Int)) ∧ w' = w := by
  go_enter Try.func69, Try.ntmps69
  go_wp2_with fail
  go_ret
  exact ⟨ret_int (or32 x n hx), rfl⟩

set_option maxRecDepth 100000 in
set_option maxHeartbeats 1000000 in
theorem rotl32_any (x n : Nat) (w : World) (hx : x < 4294967296) (hn : n ≤ 31) (h0 : 1 ≤ n) :
    Calls Try.prog 82 #[.int .u32 (x : Int), .int .i64 (-(n : Int))] w fun e w' => e = .returned (.int .u32 ((rr 32 x n : Nat) : Int)) ∧ w' = w := by
  have hq := mask32 n hn h0
  obtain ⟨m, hm⟩ : ∃ m, m = 32 - n := ⟨_, rfl⟩
  rw [← hm] at hq
  have Hm := Away.mk hm
  have hm2 : m ≤ 31 := by omega
  have hm3 : 1 ≤ m := by omega
  clear hm
  go_enter Try.func82, Try.ntmps82
  go_wp2_with fail
  go_ret
  exact ⟨ret_int (or'32 x n m Hm.out (by omega) hx), rfl⟩


theorem or64 (x n : Nat) (hx : x < 18446744073709551616) : bits .or .u64 ((x : Int) / 2 ^ n) ((x : Int) * 2 ^ (64 - n) % 18446744073709551616) = ((rr 64 x n : Nat) : Int) := by
  have e := castm x (64 - n) 18446744073709551616
  have e2 := castd x n
  rw [e2, show (x : Int) * 2 ^ (64 - n) % 18446744073709551616 = ((x * 2 ^ (64 - n) % 18446744073709551616 : Nat) : Int) from e]
  rw [u64_or_nat _ _ (Nat.lt_of_le_of_lt (Nat.div_le_self _ _) hx) (Nat.mod_lt _ (by decide))]
  rfl
theorem or'64 (x n m : Nat) (hm : m = 64 - n) (hn : n ≤ 64) (hx : x < 18446744073709551616) : bits .or .u64 ((x : Int) * 2 ^ m % 18446744073709551616) ((x : Int) / 2 ^ (64 - m)) = ((rr 64 x n : Nat) : Int) := by
  subst hm
  have e := castm x (64 - n) 18446744073709551616
  have e2 := castd x n
  rw [show 64 - (64 - n) = n by omega, e2, show (x : Int) * 2 ^ (64 - n) % 18446744073709551616 = ((x * 2 ^ (64 - n) % 18446744073709551616 : Nat) : Int) from e]
  rw [u64_or_nat _ _ (Nat.mod_lt _ (by decide)) (Nat.lt_of_le_of_lt (Nat.div_le_self _ _) hx), Nat.or_comm]
  rfl
theorem mask64 (n : Nat) (hn : n ≤ 63) (h0 : 1 ≤ n) : bits .and .u64 (IntKind.u64.wrap (-(n : Int))) 63 = ((64 - n : Nat) : Int) := by
  have e : IntKind.u64.wrap (-(n : Int)) = ((18446744073709551616 - n : Nat) : Int) := by rw [IntKind.wrap_u64]; omega
  rw [e]
  have := u64_and_nat (18446744073709551616 - n) 63 (by omega) (by decide)
  rw [show ((63 : Nat) : Int) = 63 from rfl] at this
  rw [this, nat_mask6]
  congr 1
  omega

set_option maxRecDepth 100000 in
set_option maxHeartbeats 1000000 in
theorem right64_any (x n : Nat) (w : World) (hx : x < 18446744073709551616) (hn : n ≤ 63) (h0 : 1 ≤ n) :
    Calls Try.prog 68 #[.int .u64 (x : Int), .int .i64 (n : Int)] w fun e w' => e = .returned (.int .u64 ((rr 64 x n : Nat) : Int)) ∧ w' = w := by
  go_enter Try.func68, Try.ntmps68
  go_wp2_with fail
  go_ret
  exact ⟨ret_int (or64 x n hx), rfl⟩

set_option maxRecDepth 100000 in
set_option maxHeartbeats 1000000 in
theorem rotl64_any (x n : Nat) (w : World) (hx : x < 18446744073709551616) (hn : n ≤ 63) (h0 : 1 ≤ n) :
    Calls Try.prog 81 #[.int .u64 (x : Int), .int .i64 (-(n : Int))] w fun e w' => e = .returned (.int .u64 ((rr 64 x n : Nat) : Int)) ∧ w' = w := by
  have hq := mask64 n hn h0
  obtain ⟨m, hm⟩ : ∃ m, m = 64 - n := ⟨_, rfl⟩
  rw [← hm] at hq
  have Hm := Away.mk hm
  have hm2 : m ≤ 63 := by omega
  have hm3 : 1 ≤ m := by omega
  clear hm
  go_enter Try.func81, Try.ntmps81
  go_wp2_with fail
  go_ret
  exact ⟨ret_int (or'64 x n m Hm.out (by omega) hx), rfl⟩

/-- turned by two amounts -/
def r2 (b x n m : Nat) : Nat := rr b x n ^^^ rr b x m
def r3 (b x n m k : Nat) : Nat := r2 b x n m ^^^ rr b x k
end Go.Proofs.Ythfljfampfioaaa.rot
