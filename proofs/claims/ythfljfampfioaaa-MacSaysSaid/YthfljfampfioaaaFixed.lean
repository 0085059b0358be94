/-
  What octets.Fixed returns, for any number and any width: the bytes that the document states; memory that was there before stays as it was. Conditions: none but that the number is a uint64.
-/
import Derived.Test.YthfljfampfioaaaProg
import Derived.Test.YthfljfampfioaaaOct
import Derived.Test.YthfljfampfioaaaBits
import Derived.Test.YthfljfampfioaaaShelf
import Derived.WalkKit
import Derived.WalkSpells
import Derived.WalkLawsBesides
import Derived.Lib.Hide
namespace Go.Proofs.Ythfljfampfioaaa.fixed
open Go.RowKit
open Go.Proofs.Ythfljfampfioaaa.oct Go.Proofs.Ythfljfampfioaaa.bits8

set_option maxRecDepth 100000 in
set_option maxHeartbeats 400000 in
theorem fixed_out (n : Nat) (width : Int) (w : World) (hw : width < 1 ∨ 50000 < width) :
    Calls Try.prog 18 #[.int .u64 n, .int .i64 width] w fun e w' => e = .returned (.string ⟨#[]⟩) ∧ Below w.heap.size w w' := by
  by_cases h1 : width < 1
  · clear hw
    go_enter Try.func18, Try.ntmps18
    go_wp2
    go_ret
    exact ⟨rfl, Below.refl _ _⟩
  · have h2 : 50000 < width := by omega
    clear hw
    go_enter Try.func18, Try.ntmps18
    go_wp2
    go_ret
    exact ⟨rfl, Below.refl _ _⟩

set_option maxRecDepth 100000 in
set_option maxHeartbeats 400000 in
theorem fixed_in (n : Nat) (m : Nat) (w : World) (h1 : 1 ≤ m) (h2 : m ≤ 50000) (hn : n < 18446744073709551616) :
    Calls Try.prog 18 #[.int .u64 n, .int .i64 m] w fun e w' => e = .returned (.string ⟨(fixL n m).toArray⟩) ∧ Below w.heap.size w w' := by
  go_enter Try.func18, Try.ntmps18
  go_wp2_with fail
  refine (shelf.growFresh w.heap.size w.heap.size m _ (Nat.le_refl _) (heap_new _ _) (by simp) (by omega)).mono ?_
  rintro e w1 ⟨rfl, hb, hbe⟩
  have hB : Below w.heap.size w w1 := ((Below.refl _ _).alloc (Nat.le_refl _) _).trans hbe
  go_wp2_with fail
  go_loopw [16] (fun i wr => ∃ k : Nat, k ≤ m ∧ i = .int .i64 k ∧ Lib.IsBuilder 63 5 w.heap.size w.heap.size (Lib.byteCells ((fixL n m).take k)) wr ∧ Below w.heap.size w wr) (fun i _ => m - (intOf i).toNat)
  case atStart => exact ⟨0, Nat.zero_le _, rfl, Or.inr (by simpa [Lib.byteCells] using hb), hB⟩
  case round =>
    obtain ⟨k, hk, rfl, hbu, hbe2⟩ := hrel
    have hsz := hbe2.size
    by_cases hlt : k < m
    · have hsh := shr_bytes n (m - 1 - k) .u64 hn
      have hbc := byteCells_snoc ((fixL n m).take k) n (m - 1 - k)
      rw [← fixL_take_succ n m k hlt] at hbc
      generalize n / 256 ^ (m - 1 - k) = q at hsh hbc
      rw [show 8 * ((m - 1 - k : Nat) : Int) = 8 * ((m : Int) - 1 - (k : Int)) from by omega] at hsh
      have Hbc := Lib.hid hbc
      clear hbc
      have hl : (Lib.byteCells ((fixL n m).take k)).length ≤ 50000 := by
        rw [Lib.byteCells_length]
        exact Nat.le_trans (List.length_take_le _ _) (by omega)
      go_wp2_with fail
      refine (shelf.writeByte w.heap.size w.heap.size _ _ _ hbu (by omega) hsz).mono ?_
      rintro e w2 ⟨rfl, hb2, hbe3⟩
      rw [← Hbc.out] at hb2
      go_wp2_with fail
      go_roundw
      case rel => exact ⟨k + 1, by omega, by go_num, Or.inr hb2, hbe2.trans hbe3⟩
      case measure => simp [intOf]; omega
    · obtain rfl : k = m := by omega
      have hl : (fixL n k).take k = fixL n k := List.take_of_length_le (by rw [fixL_length]; omega)
      rw [hl] at hbu
      go_wp2_with fail
      refine (shelf.toText w.heap.size w.heap.size _ _ hbu hsz).mono ?_
      rintro e w2 ⟨rfl, hbe3⟩
      go_wp2_with fail
      go_ret
      exact ⟨rfl, hbe2.trans hbe3⟩

theorem fixed_any (n : Nat) (width : Int) (w : World) (hn : n < 18446744073709551616) :
    Calls Try.prog 18 #[.int .u64 n, .int .i64 width] w fun e w' => e = .returned (.string ⟨(fixS n width).toArray⟩) ∧ Below w.heap.size w w' := by
  unfold fixS
  by_cases h : width < 1 ∨ 50000 < width
  · rw [if_pos h]
    exact fixed_out n width w h
  · rw [if_neg h]
    obtain ⟨m, rfl⟩ := Int.eq_ofNat_of_zero_le (show 0 ≤ width by omega)
    rw [Int.toNat_natCast]
    exact fixed_in n m w (by omega) (by omega) hn
end Go.Proofs.Ythfljfampfioaaa.fixed
