/-
  Plain facts on remainders: the program's % and the number from 0 to m - 1; centred numbers. No program is named here. Conditions: as each theorem says.
-/
import Derived.Test.YtdlolhilmhlklaaDoorBase
namespace Go.Proofs.YtdlolhilmhlklaaDoor.fldm
open Go Go.RowKit

theorem tmod_is (x m : Int) (hm : 0 < m) : (0 ≤ x.tmod m ∧ x.tmod m = x % m) ∨ (x.tmod m < 0 ∧ x.tmod m + m = x % m) := by
  by_cases hx : 0 ≤ x
  · left
    rw [Int.tmod_eq_emod_of_nonneg hx]
    exact ⟨Int.emod_nonneg _ (by omega), rfl⟩
  · have e : x.tmod m = -((-x) % m) := by
      rw [show x = -(-x) by omega, Int.neg_tmod, Int.tmod_eq_emod_of_nonneg (by omega), Int.neg_neg]
    by_cases h0 : (-x) % m = 0
    · left
      rw [e, h0]
      refine ⟨by omega, ?_⟩
      have h1 : m ∣ -x := Int.dvd_of_emod_eq_zero h0
      have h2 : m ∣ x := by have := Int.dvd_neg.2 h1; rwa [Int.neg_neg] at this
      rw [Int.emod_eq_zero_of_dvd h2]; rfl
    · right
      have h1 := Int.emod_nonneg (-x) (show m ≠ 0 by omega)
      refine ⟨by omega, ?_⟩
      rw [e]
      clear e
      have h2 := Int.emod_lt_of_pos (-x) hm
      have h3 := Int.emod_add_mul_ediv (-x) m
      generalize (-x) % m = r at h0 h1 h2 h3 ⊢
      generalize (-x) / m = k at h3
      have h6 : m * (-k - 1) = -(m * k) - m := by rw [Int.mul_sub, Int.mul_neg, Int.mul_one]
      have h4 : x = (-r + m) + m * (-k - 1) := by rw [h6]; omega
      have h5 : x % m = (-r + m) % m := by
        rw [h4]
        exact Int.add_mul_emod_self_left _ _ _
      rw [h5, Int.emod_eq_of_lt (by omega) (by omega)]
/-- the centred number -/
def ce (m x : Int) : Int := if m < 1 ∨ 1125899906842624 < m then 0 else if m / 2 < x % m then x % m - m else x % m
theorem ce_bound (x : Int) : -4190208 ≤ ce 8380417 x ∧ ce 8380417 x ≤ 4190208 := by
  unfold ce
  rw [if_neg (by omega)]
  split <;> omega
/-- the greatest of the first n centred coefficients -/
def cb (h : Nat → Int) : Nat → Int
  | 0 => 0
  | n + 1 => max (cb h n) (max (ce 8380417 (h n)) (-(ce 8380417 (h n))))
theorem cb_bound (h : Nat → Int) (n : Nat) : 0 ≤ cb h n ∧ cb h n ≤ 4190208 := by
  induction n with
  | zero => exact ⟨Int.le_refl 0, (by decide : (0 : Int) ≤ 4190208)⟩
  | succ n ih => have := ce_bound (h n); rw [cb]; omega
/-- the greatest of the first m polynomials -/
def cbs (p : Nat → Nat → Int) : Nat → Int
  | 0 => 0
  | m + 1 => max (cbs p m) (cb (p m) 256)
theorem cbs_bound (p : Nat → Nat → Int) (m : Nat) : 0 ≤ cbs p m ∧ cbs p m ≤ 4190208 := by
  induction m with
  | zero => exact ⟨Int.le_refl 0, (by decide : (0 : Int) ≤ 4190208)⟩
  | succ n ih => have := cb_bound (p n) 256; rw [cbs]; omega
end Go.Proofs.YtdlolhilmhlklaaDoor.fldm
