/-
  Plain facts on a row of bytes that is filled from its end (no program is named here). Conditions: as each theorem says.
-/
import Derived.Test.YthggakbomlgkhaaBits
namespace Go.Proofs.Ythggakbomlgkhaa.r01m
open Go
open Go.Proofs.Ythggakbomlgkhaa.oct Go.Proofs.Ythggakbomlgkhaa.bits8

/-- the row of m bytes when the i least significant bytes of n stand at its end -/
def refRow (n m i : Nat) : List UInt8 := (List.range m).map fun p => if m - 1 - p < i then byteAt n (m - 1 - p) else 0

theorem refRow_length (n m i : Nat) : (refRow n m i).length = m := by simp [refRow]
theorem refRow_get (n m i p : Nat) (hp : p < m) : (refRow n m i)[p]? = some (if m - 1 - p < i then byteAt n (m - 1 - p) else 0) := by
  simp [refRow, hp]
theorem refRow_zero (n m : Nat) : Lib.byteCells (refRow n m 0) = List.replicate m (Value.int .u8 0) := by
  apply List.ext_getElem?
  intro p
  by_cases hp : p < m
  · simp [Lib.byteCells, refRow_get, hp]
  · rw [List.getElem?_eq_none (by simp [Lib.byteCells, refRow_length]; omega), List.getElem?_eq_none (by simp; omega)]
theorem refRow_succ (n m i : Nat) (hi : i < m) : refRow n m (i + 1) = (refRow n m i).set (m - 1 - i) (byteAt n i) := by
  apply List.ext_getElem?
  intro p
  by_cases hp : p < m
  · rw [refRow_get _ _ _ _ hp, List.getElem?_set]
    by_cases he : m - 1 - i = p
    · subst he
      have hl : m - 1 - i < (refRow n m i).length := by rw [refRow_length]; omega
      have e : m - 1 - (m - 1 - i) = i := by omega
      simp only [e, if_pos hl, if_pos (Nat.lt_succ_self i), if_true]
    · rw [if_neg he, refRow_get _ _ _ _ hp]
      by_cases h : m - 1 - p < i
      · rw [if_pos h, if_pos (by omega)]
      · rw [if_neg h, if_neg (by omega)]
  · rw [List.getElem?_eq_none (by rw [refRow_length]; omega), List.getElem?_eq_none (by rw [List.length_set, refRow_length]; omega)]
theorem byteAt_high (n i : Nat) (hn : n < 18446744073709551616) (hi : 8 ≤ i) : byteAt n i = 0 := by
  unfold byteAt
  rw [Nat.div_eq_of_lt (Nat.lt_of_lt_of_le hn (Nat.le_trans (m := 256 ^ 8) (by simp) (Nat.pow_le_pow_right (by omega) hi)))]
  rfl
theorem refRow_same (n m i : Nat) (hn : n < 18446744073709551616) (hi : 8 ≤ i) : refRow n m (i + 1) = refRow n m i := by
  apply List.ext_getElem?
  intro p
  by_cases hp : p < m
  · rw [refRow_get _ _ _ _ hp, refRow_get _ _ _ _ hp]
    by_cases h : m - 1 - p < i
    · rw [if_pos h, if_pos (by omega)]
    · rw [if_neg h]
      by_cases h2 : m - 1 - p < i + 1
      · rw [if_pos h2, byteAt_high n _ hn (by omega)]
      · rw [if_neg h2]
  · rw [List.getElem?_eq_none (by rw [refRow_length]; omega), List.getElem?_eq_none (by rw [refRow_length]; omega)]
theorem refRow_all (n m : Nat) : refRow n m m = fixL n m := by
  apply List.ext_getElem?
  intro p
  by_cases hp : p < m
  · rw [refRow_get _ _ _ _ hp, fixL_get _ _ _ hp, if_pos (by omega)]
  · rw [List.getElem?_eq_none (by rw [refRow_length]; omega), List.getElem?_eq_none (by rw [fixL_length]; omega)]
theorem byteCells_set (l : List UInt8) (p n j : Nat) : Lib.byteCells (l.set p (byteAt n j)) = (Lib.byteCells l).set p (.int .u8 (((n / 256 ^ j : Nat) : Int) % 256)) := by
  simp only [Lib.byteCells, List.map_set, byteAt_toNat]
  rfl
end Go.Proofs.Ythggakbomlgkhaa.r01m
