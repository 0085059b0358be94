/-
  The contracts of bits.Len64 at this seat's numbers: each is one application of the library's own theorem. Conditions: as each says. What bits.Long returns: the number of bits. Conditions: the number is an int. What the small functions rightMost and size of package bits return. Conditions: the width is small, for the size. What package bits' rightEnds returns. Conditions: none.
-/
import Derived.Test.YtlcafjdehcddcaaGreatDoorPuA
import Derived.Test.YtlcafjdehcddcaaGreatDoorProg
import Derived.Shelf.Strconv.Itoa0
namespace Go.Proofs.YtlcafjdehcddcaaGreatDoor
namespace shelf
open Go.Shelf
def lays129_ren : Go.Shelf.Ren := ⟨fun | 129 => 124 | n => n, fun | 3 => 3 | 4 => 4 | 5 => 5 | 9 => 9 | 46 => 66 | 53 => 32 | n => n, fun | n => n⟩
theorem lays129 : Go.Proofs.Lays.n129 Tryz.prog lays129_ren := {
 mixed := by kernel_rfl
 f129 := Tryz.func124.trans (congrArg some (by kernel_rfl))
 t3 := Tryz.underlying3
 a3 := Tryz.isAgg3
 z3 := Tryz.sizeOf3
 v3 := Tryz.zeroValue3
 t4 := Tryz.underlying4
 a4 := Tryz.isAgg4
 z4 := Tryz.sizeOf4
 v4 := Tryz.zeroValue4
 t5 := Tryz.underlying5
 a5 := Tryz.isAgg5
 z5 := Tryz.sizeOf5
 v5 := Tryz.zeroValue5
 t9 := Tryz.underlying9
 a9 := Tryz.isAgg9
 z9 := Tryz.sizeOf9
 v9 := Tryz.zeroValue9
 t46 := Tryz.underlying66
 a46 := Tryz.isAgg66
 z46 := Tryz.sizeOf66
 v46 := Tryz.zeroValue66
 t53 := Tryz.underlying32
 a53 := Tryz.isAgg32
 z53 := Tryz.sizeOf32
 v53 := Tryz.zeroValue32 }
open Go.RowKit in
theorem len64 (x : Int) (w : World) (h0 : 0 ≤ x) (h1 : x ≤ 18446744073709551615) :
 Calls Tryz.prog 124 #[.int .u64 x] w fun e w' => e = .returned (.int .i64 (Lib.bitLen x.toNat)) ∧ w' = w := Any.bits_Len64 lays129 x w h0 h1
end shelf
namespace plong
open Go Go.RowKit
open arr mem rbita
theorem lbf_len (f : Nat) : ∀ n, Lib.bitLenAux f n = lbf f n := by
 induction f with
 | zero => intro n; rfl
 | succ f ih =>
  intro n
  rw [Lib.bitLenAux, lbf, ih]
  by_cases h : n = 0
  ·rw [if_pos h, if_pos h]
  ·rw [if_neg h, if_neg h]; omega
set_option maxRecDepth 100000 in
set_option maxHeartbeats 1000000 in
theorem len_any (x : Int) (h0 : 0 ≤ x) (h1 : x ≤ 18446744073709551615) (w : World) : Calls Tryz.prog 112 #[.int .u64 x] w fun e w' => e = .returned (.int .i64 ((lb x.toNat : Nat) : Int)) ∧ w' = w := by
 have H : ∀ w1 : World, Calls Tryz.prog 124 #[.int .u64 x] w1 fun e w' => e = .returned (.int .i64 ((lb x.toNat : Nat) : Int)) ∧ w' = w1 := fun w1 => by
  have h := shelf.len64 x w1 h0 h1
  rw [show Lib.bitLen x.toNat = lb x.toNat from lbf_len 64 _] at h
  exact h
 go_enter Tryz.func112, Tryz.ntmps112
 go_wp2_with fail
 refine (H _).mono ?_
 rintro e w1 ⟨rfl, rfl⟩
 go_wp2_with fail
 go_ret
 exact ⟨rfl, rfl⟩
set_option maxRecDepth 100000 in
set_option maxHeartbeats 1000000 in
theorem long_any (n : Int) (hn : n < 9223372036854775808) (w : World) : Calls Tryz.prog 79 #[.int .i64 n] w fun e w' => e = .returned (.int .i64 ((lb n.toNat : Nat) : Int)) ∧ w' = w := by
 by_cases h0 : 0 ≤ n
 ·have H := fun w1 => len_any n h0 (by omega) w1
  have hmx : max n 0 = n := by omega
  have fu : IntKind.u64.wrap n = n := by rw [IntKind.wrap_u64]; omega
  go_enter Tryz.func79, Tryz.ntmps79
  go_wp2_with fail
  refine (H _).mono ?_
  rintro e w1 ⟨rfl, rfl⟩
  go_wp2_with fail
  go_ret
  exact ⟨rfl, rfl⟩
 ·have H := fun w1 => len_any 0 (by decide) (by decide) w1
  have hz : n.toNat = (0 : Int).toNat := by omega
  rw [hz]
  have hmx : max n 0 = 0 := by omega
  have fu : IntKind.u64.wrap 0 = 0 := by decide
  go_enter Tryz.func79, Tryz.ntmps79
  go_wp2_with fail
  refine (H _).mono ?_
  rintro e w1 ⟨rfl, rfl⟩
  go_wp2_with fail
  go_ret
  exact ⟨rfl, rfl⟩
end plong
namespace psmall
open Go Go.RowKit
open arr mem
set_option maxRecDepth 100000 in
set_option maxHeartbeats 1000000 in
theorem most_any (m : Int) (w : World) : Calls Tryz.prog 97 #[.int .i64 m] w fun e w' => e = .returned (.bool (decide (1 ≤ m ∧ m < 8380417))) ∧ w' = w := by
 by_cases c0 : 1 ≤ m
 rotate_left
 ·rw [decide_eq_false (fun h => c0 h.1)]
  go_enter Tryz.func97, Tryz.ntmps97
  go_wp2_with fail
  go_ret
  exact ⟨rfl, rfl⟩
 by_cases c1 : m < 8380417
 rotate_left
 ·rw [decide_eq_false (fun h => c1 h.2)]
  go_enter Tryz.func97, Tryz.ntmps97
  go_wp2_with fail
  go_ret
  exact ⟨rfl, rfl⟩
 rw [decide_eq_true ⟨c0, c1⟩]
 go_enter Tryz.func97, Tryz.ntmps97
 go_wp2_with fail
 go_ret
 exact ⟨rfl, rfl⟩
set_option maxRecDepth 100000 in
set_option maxHeartbeats 1000000 in
theorem size_any (wd : Nat) (h : wd ≤ 64) (w : World) : Calls Tryz.prog 103 #[.int .i64 (wd : Int)] w fun e w' => e = .returned (.int .i64 ((32 * wd : Nat) : Int)) ∧ w' = w := by
 obtain ⟨M, hM⟩ := ex_eq (32 * wd)
 have f1 : IntKind.i64.wrap (256 * (wd : Int)) = 256 * (wd : Int) := by rw [IntKind.wrap_i64]; omega
 have f2 : (256 * (wd : Int)).tdiv 8 = (M : Int) := by rw [Int.tdiv_eq_ediv_of_nonneg (by omega)]; have := hM.out; omega
 have f3 : 256 * (wd : Int) / 8 = (M : Int) := by have := hM.out; omega
 rw [hM.out]
 go_enter Tryz.func103, Tryz.ntmps103
 go_wp2_with fail
 go_ret
 exact ⟨by first | rfl | (congr 2; have := hM.out; omega), rfl⟩
end psmall
namespace psmall
open Go Go.RowKit
open arr mem
set_option maxRecDepth 100000 in
set_option maxHeartbeats 1000000 in
theorem ends_any (l h : Int) (w : World) : Calls Tryz.prog 100 #[.int .i64 l, .int .i64 h] w fun e w' => e = .returned (.bool (decide (0 ≤ l ∧ l < 4190208 ∧ 1 ≤ h ∧ h < 4190208))) ∧ w' = w := by
 by_cases c0 : 0 ≤ l
 rotate_left
 ·rw [decide_eq_false (fun k => c0 k.1)]
  go_enter Tryz.func100, Tryz.ntmps100
  go_wp2_with fail
  go_ret
  exact ⟨rfl, rfl⟩
 by_cases c1 : l < 4190208
 rotate_left
 ·rw [decide_eq_false (fun k => c1 k.2.1)]
  go_enter Tryz.func100, Tryz.ntmps100
  go_wp2_with fail
  go_ret
  exact ⟨rfl, rfl⟩
 by_cases c2 : 1 ≤ h
 rotate_left
 ·rw [decide_eq_false (fun k => c2 k.2.2.1)]
  go_enter Tryz.func100, Tryz.ntmps100
  go_wp2_with fail
  go_ret
  exact ⟨rfl, rfl⟩
 by_cases c3 : h < 4190208
 rotate_left
 ·rw [decide_eq_false (fun k => c3 k.2.2.2)]
  go_enter Tryz.func100, Tryz.ntmps100
  go_wp2_with fail
  go_ret
  exact ⟨rfl, rfl⟩
 rw [decide_eq_true ⟨c0, c1, c2, c3⟩]
 go_enter Tryz.func100, Tryz.ntmps100
 go_wp2_with fail
 go_ret
 exact ⟨rfl, rfl⟩
end psmall
end Go.Proofs.YtlcafjdehcddcaaGreatDoor
