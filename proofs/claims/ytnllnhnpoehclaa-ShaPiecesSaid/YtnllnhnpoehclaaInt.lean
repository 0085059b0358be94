/-
  What octets.Int and octets.Text return, for any number, any string and any limit: the document's bytes, or its error; memory that was there before stays as it was. Conditions: none but that the string's length fits an int.
-/
import Derived.Test.YtnllnhnpoehclaaFixed
namespace Go.Proofs.Ytnllnhnpoehclaa.ints
open Go.RowKit
open Go.Proofs.Ytnllnhnpoehclaa.oct Go.Proofs.Ytnllnhnpoehclaa.bits8

set_option maxRecDepth 100000 in
set_option maxHeartbeats 400000 in
theorem int_out (n : Int) (w : World) (hn : n < 0 ∨ 1125899906842624 < n) :
    Calls Try.prog 50 #[.int .i64 n] w fun e w' => e = .returned (.tuple #[.string ⟨#[]⟩, .int .i64 6]) ∧ Below w.heap.size w w' := by
  by_cases h1 : n < 0
  · clear hn
    go_enter Try.func50, Try.ntmps50
    go_wp2
    go_ret2
    exact ⟨rfl, Below.refl _ _⟩
  · have h2 : 1125899906842624 < n := by omega
    clear hn
    go_enter Try.func50, Try.ntmps50
    go_wp2
    go_ret2
    exact ⟨rfl, Below.refl _ _⟩

set_option maxRecDepth 100000 in
set_option maxHeartbeats 400000 in
theorem int_in (m : Nat) (w : World) (hm : m ≤ 1125899906842624) :
    Calls Try.prog 50 #[.int .i64 m] w fun e w' => e = .returned (.tuple #[.string ⟨(UInt8.ofNat (wd m) :: fixL m (wd m)).toArray⟩, .int .i64 0]) ∧ Below w.heap.size w w' := by
  have hwd := wd_le m
  have hb := wd_bitLen m hm
  have hL : Lib.bitLen m ≤ 64 := Lib.bitLen_le m 64 (by omega) (by omega)
  have Hb := Lib.hid hb
  clear hb
  generalize wd m = k at hwd Hb ⊢
  have hfl : (fixL m k).length ≤ 7 := by rw [fixL_length]; exact hwd
  go_enter Try.func50, Try.ntmps50
  go_wp2_with fail
  refine (shelf.len64 _ _ (by omega) (by omega)).mono ?_
  rintro e w1 ⟨rfl, rfl⟩
  rw [Int.toNat_natCast]
  generalize Lib.bitLen m = L at hL Hb ⊢
  go_wp2_with fail
  rw [show ((L : Int) + 7) / 8 = ((k : Nat) : Int) from by have := Hb.out; omega]
  refine (fixed.fixed_any k 1 _ (by omega)).mono ?_
  rintro e w2 ⟨rfl, hb2⟩
  rw [fixS_one]
  go_wp2_with fail
  refine (fixed.fixed_any m k _ (by omega)).mono ?_
  rintro e w3 ⟨rfl, hb3⟩
  rw [fixS_wd _ _ (by omega)]
  go_wp2_with fail
  go_ret2
  exact ⟨by rw [str_app_arr]; rfl, hb2.trans (hb3.mono hb2.size)⟩
theorem int_any (n : Int) (w : World) :
    Calls Try.prog 50 #[.int .i64 n] w fun e w' => e = .returned (.tuple #[.string ⟨(intL n).1.toArray⟩, .int .i64 (intL n).2]) ∧ Below w.heap.size w w' := by
  by_cases h : n < 0 ∨ 1125899906842624 < n
  · rw [intL_out n h]
    exact int_out n w h
  · obtain ⟨m, rfl⟩ := Int.eq_ofNat_of_zero_le (show 0 ≤ n by omega)
    rw [intL_in m (by omega)]
    exact int_in m w (by omega)
end Go.Proofs.Ytnllnhnpoehclaa.ints
