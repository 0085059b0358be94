/-
  What sha's turned32 and turned64 return: the exclusive or of a word turned to the right by each of two or three amounts. Conditions: the word has its bits, and each amount is from 1 to one less than their number.
-/
import Derived.Test.YthfljfampfioaaaRot
namespace Go.Proofs.Ythfljfampfioaaa.turned
open Go.RowKit
open Go.Proofs.Ythfljfampfioaaa.arr Go.Proofs.Ythfljfampfioaaa.rot

theorem xr32 (x n m : Nat) (hx : x < 4294967296) : bits .xor .u32 ((rr 32 x n : Nat) : Int) ((rr 32 x m : Nat) : Int) = ((rot.r2 32 x n m : Nat) : Int) :=
  u32_xor_nat _ _ (rr_lt 32 x n hx) (rr_lt 32 x m hx)
theorem r2_lt32 (x n m : Nat) (hx : x < 4294967296) : rot.r2 32 x n m < 4294967296 := Nat.xor_lt_two_pow (n := 32) (rr_lt 32 x n hx) (rr_lt 32 x m hx)
theorem r3_lt32 (x n m k : Nat) (hx : x < 4294967296) : rot.r3 32 x n m k < 4294967296 := Nat.xor_lt_two_pow (n := 32) (r2_lt32 x n m hx) (rr_lt 32 x k hx)
theorem xr332 (x n m k : Nat) (hx : x < 4294967296) : bits .xor .u32 ((rot.r2 32 x n m : Nat) : Int) ((rr 32 x k : Nat) : Int) = ((rot.r3 32 x n m k : Nat) : Int) :=
  u32_xor_nat _ _ (r2_lt32 x n m hx) (rr_lt 32 x k hx)

set_option maxRecDepth 100000 in
set_option maxHeartbeats 1000000 in
theorem two32 (x n m : Nat) (w : World) (hx : x < 4294967296) (hn : n ≤ 31) (h0 : 1 ≤ n) (hm : m ≤ 31) (h1 : 1 ≤ m) :
    Calls Try.prog 79 #[.int .u32 (x : Int), .int .i64 (n : Int), .int .i64 (m : Int), .slice none 0 0] w fun e w' => e = .returned (.int .u32 ((rot.r2 32 x n m : Nat) : Int)) ∧ w' = w := by
  have Hx := Away.mk (xr32 x n m hx)
  go_enter Try.func79, Try.ntmps79
  go_wp2_with fail
  refine (rotl32_any x n _ hx hn h0).mono ?_
  rintro e w1 ⟨rfl, rfl⟩
  go_wp2_with fail
  refine (rotl32_any x m _ hx hm h1).mono ?_
  rintro e w1 ⟨rfl, rfl⟩
  go_wp2_with fail
  rw [Hx.out]
  go_loopw [9, 23] (fun s i wr => i = .int .i64 0 ∧ s = .int .u32 ((rot.r2 32 x n m : Nat) : Int) ∧ wr = w1) (fun _ _ _ => 0)
  case atStart => exact ⟨rfl, rfl, rfl⟩
  case round =>
    obtain ⟨rfl, rfl, rfl⟩ := hrel
    go_wp2_with fail
    go_ret
    exact ⟨rfl, rfl⟩

set_option maxRecDepth 100000 in
set_option maxHeartbeats 1000000 in
theorem three32 (x n m k g : Nat) (w : World) (hg : w.cell? ⟨g, 0, none⟩ = some (.int .i64 (k : Int))) (hx : x < 4294967296) (hn : n ≤ 31) (h0 : 1 ≤ n) (hm : m ≤ 31) (h1 : 1 ≤ m) (hk : k ≤ 31) (h2 : 1 ≤ k) :
    Calls Try.prog 79 #[.int .u32 (x : Int), .int .i64 (n : Int), .int .i64 (m : Int), .slice (some ⟨g, 0, none⟩) 1 1] w fun e w' => e = .returned (.int .u32 ((rot.r3 32 x n m k : Nat) : Int)) ∧ w' = w := by
  have Hx := Away.mk (xr32 x n m hx)
  have Hy := Away.mk (xr332 x n m k hx)
  go_enter Try.func79, Try.ntmps79
  go_wp2_with fail
  refine (rotl32_any x n _ hx hn h0).mono ?_
  rintro e w1 ⟨rfl, rfl⟩
  go_wp2_with fail
  refine (rotl32_any x m _ hx hm h1).mono ?_
  rintro e w1 ⟨rfl, rfl⟩
  go_wp2_with fail
  rw [Hx.out]
  go_loopw [9, 23] (fun s i wr => wr = w1 ∧ ((i = .int .i64 0 ∧ s = .int .u32 ((rot.r2 32 x n m : Nat) : Int)) ∨ (i = .int .i64 1 ∧ s = .int .u32 ((rot.r3 32 x n m k : Nat) : Int)))) (fun _ i _ => 1 - (intOf i).toNat)
  case atStart => exact ⟨rfl, Or.inl ⟨rfl, rfl⟩⟩
  case round =>
    obtain ⟨rfl, ⟨rfl, rfl⟩ | ⟨rfl, rfl⟩⟩ := hrel
    · go_wp2_with fail
      refine (rotl32_any x k _ hx hk h2).mono ?_
      rintro e w1 ⟨rfl, rfl⟩
      go_wp2_with fail
      rw [Hy.out]
      go_roundw
      case rel => exact ⟨by first | rfl | trivial, Or.inr ⟨by first | rfl | trivial, by first | rfl | trivial⟩⟩
      case measure => simp [intOf]
    · go_wp2_with fail
      go_ret
      exact ⟨rfl, rfl⟩

theorem xr64 (x n m : Nat) (hx : x < 18446744073709551616) : bits .xor .u64 ((rr 64 x n : Nat) : Int) ((rr 64 x m : Nat) : Int) = ((rot.r2 64 x n m : Nat) : Int) :=
  u64_xor_nat _ _ (rr_lt 64 x n hx) (rr_lt 64 x m hx)
theorem r2_lt64 (x n m : Nat) (hx : x < 18446744073709551616) : rot.r2 64 x n m < 18446744073709551616 := Nat.xor_lt_two_pow (n := 64) (rr_lt 64 x n hx) (rr_lt 64 x m hx)
theorem r3_lt64 (x n m k : Nat) (hx : x < 18446744073709551616) : rot.r3 64 x n m k < 18446744073709551616 := Nat.xor_lt_two_pow (n := 64) (r2_lt64 x n m hx) (rr_lt 64 x k hx)
theorem xr364 (x n m k : Nat) (hx : x < 18446744073709551616) : bits .xor .u64 ((rot.r2 64 x n m : Nat) : Int) ((rr 64 x k : Nat) : Int) = ((rot.r3 64 x n m k : Nat) : Int) :=
  u64_xor_nat _ _ (r2_lt64 x n m hx) (rr_lt 64 x k hx)

set_option maxRecDepth 100000 in
set_option maxHeartbeats 1000000 in
theorem two64 (x n m : Nat) (w : World) (hx : x < 18446744073709551616) (hn : n ≤ 63) (h0 : 1 ≤ n) (hm : m ≤ 63) (h1 : 1 ≤ m) :
    Calls Try.prog 78 #[.int .u64 (x : Int), .int .i64 (n : Int), .int .i64 (m : Int), .slice none 0 0] w fun e w' => e = .returned (.int .u64 ((rot.r2 64 x n m : Nat) : Int)) ∧ w' = w := by
  have Hx := Away.mk (xr64 x n m hx)
  go_enter Try.func78, Try.ntmps78
  go_wp2_with fail
  refine (rotl64_any x n _ hx hn h0).mono ?_
  rintro e w1 ⟨rfl, rfl⟩
  go_wp2_with fail
  refine (rotl64_any x m _ hx hm h1).mono ?_
  rintro e w1 ⟨rfl, rfl⟩
  go_wp2_with fail
  rw [Hx.out]
  go_loopw [9, 23] (fun s i wr => i = .int .i64 0 ∧ s = .int .u64 ((rot.r2 64 x n m : Nat) : Int) ∧ wr = w1) (fun _ _ _ => 0)
  case atStart => exact ⟨rfl, rfl, rfl⟩
  case round =>
    obtain ⟨rfl, rfl, rfl⟩ := hrel
    go_wp2_with fail
    go_ret
    exact ⟨rfl, rfl⟩

set_option maxRecDepth 100000 in
set_option maxHeartbeats 1000000 in
theorem three64 (x n m k g : Nat) (w : World) (hg : w.cell? ⟨g, 0, none⟩ = some (.int .i64 (k : Int))) (hx : x < 18446744073709551616) (hn : n ≤ 63) (h0 : 1 ≤ n) (hm : m ≤ 63) (h1 : 1 ≤ m) (hk : k ≤ 63) (h2 : 1 ≤ k) :
    Calls Try.prog 78 #[.int .u64 (x : Int), .int .i64 (n : Int), .int .i64 (m : Int), .slice (some ⟨g, 0, none⟩) 1 1] w fun e w' => e = .returned (.int .u64 ((rot.r3 64 x n m k : Nat) : Int)) ∧ w' = w := by
  have Hx := Away.mk (xr64 x n m hx)
  have Hy := Away.mk (xr364 x n m k hx)
  go_enter Try.func78, Try.ntmps78
  go_wp2_with fail
  refine (rotl64_any x n _ hx hn h0).mono ?_
  rintro e w1 ⟨rfl, rfl⟩
  go_wp2_with fail
  refine (rotl64_any x m _ hx hm h1).mono ?_
  rintro e w1 ⟨rfl, rfl⟩
  go_wp2_with fail
  rw [Hx.out]
  go_loopw [9, 23] (fun s i wr => wr = w1 ∧ ((i = .int .i64 0 ∧ s = .int .u64 ((rot.r2 64 x n m : Nat) : Int)) ∨ (i = .int .i64 1 ∧ s = .int .u64 ((rot.r3 64 x n m k : Nat) : Int)))) (fun _ i _ => 1 - (intOf i).toNat)
  case atStart => exact ⟨rfl, Or.inl ⟨rfl, rfl⟩⟩
  case round =>
    obtain ⟨rfl, ⟨rfl, rfl⟩ | ⟨rfl, rfl⟩⟩ := hrel
    · go_wp2_with fail
      refine (rotl64_any x k _ hx hk h2).mono ?_
      rintro e w1 ⟨rfl, rfl⟩
      go_wp2_with fail
      rw [Hy.out]
      go_roundw
      case rel => exact ⟨by first | rfl | trivial, Or.inr ⟨by first | rfl | trivial, by first | rfl | trivial⟩⟩
      case measure => simp [intOf]
    · go_wp2_with fail
      go_ret
      exact ⟨rfl, rfl⟩
end Go.Proofs.Ythfljfampfioaaa.turned
