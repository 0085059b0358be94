/-
  What the reference's Fixed returns (package sigilref01), for any input. Conditions: none but that a number is of its type.
-/
import Derived.Test.YthggakbomlgkhaaProg
import Derived.Test.YthggakbomlgkhaaOct
import Derived.Test.YthggakbomlgkhaaBits
import Derived.Test.YthggakbomlgkhaaR01M
import Derived.WalkKit
import Derived.WalkSpells
import Derived.WalkLawsBesides
import Derived.Lib.Hide
namespace Go.Proofs.Ythggakbomlgkhaa.r01f
open Go.RowKit
open Go.Proofs.Ythggakbomlgkhaa.oct Go.Proofs.Ythggakbomlgkhaa.bits8 Go.Proofs.Ythggakbomlgkhaa.r01m

theorem infoByte : (Try.prog.info? 5).map (fun i => (i.zero, i.size, i.bytes)) = some (some (.int .u8 0), 1, 1) := by kernel_rfl

set_option maxRecDepth 100000 in
set_option maxHeartbeats 400000 in
theorem fixed_out (n : Nat) (width : Int) (w : World) (hw : width < 1 ∨ 50000 < width) :
    Calls Try.prog 28 #[.int .u64 n, .int .i64 width] w fun e w' => e = .returned (.string ⟨#[]⟩) ∧ Below w.heap.size w w' := by
  by_cases h1 : width < 1
  · clear hw
    go_enter Try.func28, Try.ntmps28
    go_wp2
    go_ret
    exact ⟨rfl, Below.refl _ _⟩
  · have h2 : 50000 < width := by omega
    clear hw
    go_enter Try.func28, Try.ntmps28
    go_wp2
    go_ret
    exact ⟨rfl, Below.refl _ _⟩

set_option maxRecDepth 100000 in
set_option maxHeartbeats 400000 in
theorem fixed_in (n : Nat) (m : Nat) (w : World) (h1 : 1 ≤ m) (h2 : m ≤ 50000) (hn : n < 18446744073709551616) :
    Calls Try.prog 28 #[.int .u64 n, .int .i64 m] w fun e w' => e = .returned (.string ⟨(fixL n m).toArray⟩) ∧ Below w.heap.size w w' := by
  obtain ⟨i0, hi, hz0, hz1, hz2⟩ := info_parts infoByte
  go_enter Try.func28, Try.ntmps28
  go_wp2_with (at_make; refine wpList_make_full _ rfl (.tmp 13) (.tmp 13) 53 rfl w.heap.size 5 i0 (.int .u8 0) 1 Try.underlying53 hi hz0 hz1 .i64 .i64 m m m rfl rfl rfl rfl (by rw [hz2]; omega) (by unfold maxLen; omega) (Nat.le_refl _) ?_; intro w1 hown hgrow)
  have hB : Below w.heap.size w w1 := (Below.refl _ _).grown hgrow (Nat.le_refl _) (fun k hk => by simp at hk)
  have hown0 : w1.ownsRow w.heap.size 5 1 (Value.slice (some ⟨w.heap.size, 0, none⟩) m m) m (Lib.byteCells (refRow n m 0)) := by
    rw [refRow_zero]
    simpa [Value.cells, toList_madeCells_one] using hown
  clear hown
  go_loopw [16] (fun i wr => ∃ k : Nat, k ≤ m ∧ i = .int .i64 k ∧ wr.ownsRow w.heap.size 5 1 (Value.slice (some ⟨w.heap.size, 0, none⟩) m m) m (Lib.byteCells (refRow n m k)) ∧ Below w.heap.size w wr) (fun i _ => m - (intOf i).toNat)
  case atStart => exact ⟨0, Nat.zero_le _, rfl, hown0, hB⟩
  case round =>
    obtain ⟨k, hk, rfl, hr, hbe⟩ := hrel
    by_cases hlt : k < m
    · by_cases h8 : k < 8
      · have hq : (n : Int) / 2 ^ (8 * k) = ((n / 256 ^ k : Nat) : Int) := by
          rw [show (256 : Nat) ^ k = 2 ^ (8 * k) from by rw [show (256 : Nat) = 2 ^ 8 from rfl, ← Nat.pow_mul]]
          norm_cast
        have hbc := byteCells_set (refRow n m k) (m - 1 - k) n k
        rw [← refRow_succ n m k hlt] at hbc
        generalize n / 256 ^ k = q at hq hbc
        have Hbc := Lib.hid hbc
        have Hq := Lib.hid hq
        clear hbc hq
        have hfz := hr.frozenAt (m - 1 - k)
        have hce := hr.cellAt (m - 1 - k) (by omega)
        have hll : m - 1 - k < (Lib.byteCells (refRow n m k)).length := by rw [Lib.byteCells_length, refRow_length]; omega
        rw [List.getElem?_eq_getElem hll] at hce
        have hto : ((m : Int) - 1 - (k : Int)).toNat = m - 1 - k := by omega
        have hst := hr.stored (m - 1 - k) (.int .u8 ((q : Int) % 256))
        rw [← Hbc.out] at hst
        clear hr
        go_wp2
        rw [Hq.out]
        go_roundw
        case rel => exact ⟨k + 1, by omega, by go_num, hst.1, hbe.grown hst.2 hbe.size (fun j hj => by simp at hj; omega)⟩
        case measure => simp [intOf]; omega
      · have hs := refRow_same n m k hn (by omega)
        rw [← hs] at hr
        clear hs
        go_wp2
        go_roundw
        case rel => exact ⟨k + 1, by omega, by go_num, hr, hbe⟩
        case measure => simp [intOf]; omega
    · obtain rfl : k = m := by omega
      rw [refRow_all] at hr
      have hcv := run_convert_bytes_back (P := Try.prog) wr 53 9 5 ⟨w.heap.size, 0, none⟩ k (fixL n k) Try.underlying53 Try.underlying5 Try.underlying9 (fun j hj => by
        have hj' : j < k := by rw [fixL_length] at hj; exact hj
        have := hr.cellAt j (by omega)
        rw [addr_add, this]
        simp [Lib.byteCells, hj])
      rw [fixL_length] at hcv
      clear hr
      go_wp2
      go_ret
      exact ⟨rfl, hbe⟩

theorem fixed_any (n : Nat) (width : Int) (w : World) (hn : n < 18446744073709551616) :
    Calls Try.prog 28 #[.int .u64 n, .int .i64 width] w fun e w' => e = .returned (.string ⟨(fixS n width).toArray⟩) ∧ Below w.heap.size w w' := by
  unfold fixS
  by_cases h : width < 1 ∨ 50000 < width
  · rw [if_pos h]
    exact fixed_out n width w h
  · rw [if_neg h]
    obtain ⟨m, rfl⟩ := Int.eq_ofNat_of_zero_le (show 0 ≤ width by omega)
    rw [Int.toNat_natCast]
    exact fixed_in n m w (by omega) (by omega) hn
end Go.Proofs.Ythggakbomlgkhaa.r01f
