/-
  Plain facts on high and low parts of a number by twice a gap. No program is named here. Conditions: as each theorem says.
-/
import Derived.Test.YtfgigpmhncfpbaaFdm
namespace Go.Proofs.Ytfgigpmhncfpbaa.rndm
open Go Go.RowKit
open Go.Proofs.Ytfgigpmhncfpbaa.fldm

/-- may numbers be parted by it -/
def okg (g : Int) : Bool := g == 95232 || g == 261888
theorem okg_of {g : Int} (h : okg g = true) : g = 95232 ∨ g = 261888 := by
  unfold okg at h
  simpa using h
theorem okg_not {g : Int} (h : okg g = false) : (g == 95232) = false ∧ (g == 261888) = false := by
  unfold okg at h
  simpa using h
/-- the centred rest of the reduced number -/
def pl (g x : Int) : Int := ce (2 * g) (x % 8380417)
def hgh (g x : Int) : Int := if okg g = true then (if x % 8380417 - pl g x = 8380416 then 0 else (x % 8380417 - pl g x) / (2 * g)) else 0
def lw (g x : Int) : Int := if okg g = true then (if x % 8380417 - pl g x = 8380416 then pl g x - 1 else pl g x) else 0
theorem ce_is (m r : Int) (h1 : 1 ≤ m) (h2 : m ≤ 1125899906842624) : ce m r = if m / 2 < r % m then r % m - m else r % m := by
  unfold ce
  rw [if_neg (by omega)]
theorem pl_95232 (x : Int) : -95232 < pl 95232 x ∧ pl 95232 x ≤ 95232 ∧ pl 95232 x ≤ x % 8380417 ∧ (x % 8380417 - pl 95232 x) % 190464 = 0 := by
  unfold pl
  rw [ce_is _ _ (by decide) (by decide)]
  split <;> omega
theorem pl_261888 (x : Int) : -261888 < pl 261888 x ∧ pl 261888 x ≤ 261888 ∧ pl 261888 x ≤ x % 8380417 ∧ (x % 8380417 - pl 261888 x) % 523776 = 0 := by
  unfold pl
  rw [ce_is _ _ (by decide) (by decide)]
  split <;> omega
theorem hgh_bad {g : Int} (h : okg g = false) (x : Int) : hgh g x = 0 := by unfold hgh; rw [if_neg (by rw [h]; decide)]
theorem lw_bad {g : Int} (h : okg g = false) (x : Int) : lw g x = 0 := by unfold lw; rw [if_neg (by rw [h]; decide)]
theorem okg_a : okg 95232 = true := by decide
theorem okg_b : okg 261888 = true := by decide
/-- the parts' bounds; put together they are the number again -/
theorem parts_95232 (x : Int) : 0 ≤ hgh 95232 x ∧ hgh 95232 x < 44 ∧ -95232 ≤ lw 95232 x ∧ lw 95232 x ≤ 95232 ∧ (hgh 95232 x * 190464 + lw 95232 x) % 8380417 = x % 8380417 := by
  have h := pl_95232 x
  unfold hgh lw
  rw [if_pos okg_a, if_pos okg_a]
  split <;> omega
theorem parts_261888 (x : Int) : 0 ≤ hgh 261888 x ∧ hgh 261888 x < 16 ∧ -261888 ≤ lw 261888 x ∧ lw 261888 x ≤ 261888 ∧ (hgh 261888 x * 523776 + lw 261888 x) % 8380417 = x % 8380417 := by
  have h := pl_261888 x
  unfold hgh lw
  rw [if_pos okg_b, if_pos okg_b]
  split <;> omega
/-- .. by 8192 -/
def sl (x : Int) : Int := ce 8192 (x % 8380417)
def sh (x : Int) : Int := (x % 8380417 - sl x) / 8192
theorem sl_bound (x : Int) : -4096 < sl x ∧ sl x ≤ 4096 ∧ sl x ≤ x % 8380417 ∧ (x % 8380417 - sl x) % 8192 = 0 := by
  unfold sl
  rw [ce_is _ _ (by decide) (by decide)]
  split <;> omega
theorem split_is (x : Int) : 0 ≤ sh x ∧ sh x ≤ 1023 ∧ (sh x * 8192 + sl x) % 8380417 = x % 8380417 := by
  have h := sl_bound x
  unfold sh
  omega
/-- a small number is found again from its rest -/
theorem ce_back (l : Int) (h1 : -4190208 ≤ l) (h2 : l ≤ 4190208) : ce 8380417 (l % 8380417) = l := by
  rw [ce_is _ _ (by decide) (by decide)]
  split <;> omega
/-- the high part changed to a neighbour -/
def us (g h x : Int) : Int := if okg g = true then (if h = 0 then hgh g x else if 0 < lw g x then (hgh g x + 1) % (8380416 / (2 * g)) else (hgh g x + 8380416 / (2 * g) - 1) % (8380416 / (2 * g))) else 0
/-- does adding z change the high part -/
def hn (g z x : Int) : Int := if hgh g x = hgh g ((x + z) % 8380417) then 0 else 1
/-- which parameters may be: the parts of the sentence -/
def upto (n m : Int) : Bool := decide (1 ≤ n) && decide (n ≤ m)
def latt (k l e t a b o s : Int) : Bool :=
  upto k 8 && upto l 8 && upto t 64 && upto o 100 && (e == 2 || e == 4) && (a == 131072 || a == 524288) && okg b && (s == 128 || s == 192 || s == 256)
/-- the parameter sets -/
def set1 : Array Value := #[.int .i64 4, .int .i64 4, .int .i64 2, .int .i64 39, .int .i64 131072, .int .i64 95232, .int .i64 80, .int .i64 128]
def set2 : Array Value := #[.int .i64 6, .int .i64 5, .int .i64 4, .int .i64 49, .int .i64 524288, .int .i64 261888, .int .i64 55, .int .i64 192]
def set3 : Array Value := #[.int .i64 8, .int .i64 7, .int .i64 2, .int .i64 60, .int .i64 524288, .int .i64 261888, .int .i64 75, .int .i64 256]
def set4 : Array Value := #[.int .i64 1, .int .i64 1, .int .i64 2, .int .i64 20, .int .i64 131072, .int .i64 95232, .int .i64 60, .int .i64 128]
def set0 : Array Value := #[.int .i64 0, .int .i64 0, .int .i64 0, .int .i64 0, .int .i64 0, .int .i64 0, .int .i64 0, .int .i64 0]
end Go.Proofs.Ytfgigpmhncfpbaa.rndm
