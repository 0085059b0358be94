/-
  The product of two polynomials power by power: what is summed up while rows are gone through. No program is named here. Conditions: as each theorem says.
-/
import Derived.Test.YtbbealdamampaaaNtm
namespace Go.Proofs.Ytbbealdamampaaa.ntts
open Go.Proofs.Ytbbealdamampaaa.nttm Go.Proofs.Ytbbealdamampaaa.polys
variable (A B : Nat → Int)

/-- which number of B meets number i of A at the power p -/
def qx (i p : Nat) : Nat := if p < i then p + 256 - i else p - i
def tm (i p : Nat) : Int := A i * shi 256 (-1) B i p
/-- i rows are done, and j numbers of the next -/
def sl (i j : Nat) : Nat → Int := fun p => sm (fun k => tm A B k p) i + (if qx i p < j then tm A B i p else 0)
theorem sl_zero : sl A B 0 0 = fun _ => 0 := by funext p; unfold sl; rw [if_neg (by omega)]; rfl
theorem sl_row (i p : Nat) : sl A B i 0 p = sm (fun k => tm A B k p) i := by unfold sl; rw [if_neg (by omega)]; omega
theorem sl_next {i p : Nat} (hi : i < 256) (hp : p < 256) : sl A B i 256 p = sl A B (i + 1) 0 p := by
  rw [sl_row]
  unfold sl
  rw [if_pos (by unfold qx; split <;> omega)]
  rfl
theorem sl_all (p : Nat) : sl A B 256 0 p = mul 256 (-1) A B p := sl_row A B 256 p
theorem tm_low {i j : Nat} (h : i + j < 256) : tm A B i (i + j) = A i * B j := by
  unfold tm
  rw [shi_low 256 (-1) B i (by omega) (i + j) h, if_neg (by omega), Nat.add_sub_cancel_left]
theorem tm_high {i j p : Nat} (hi : i < 256) (hj : j < 256) (hp : i + j = p + 256) : tm A B i p = -(A i * B j) := by
  unfold tm
  rw [shi_low 256 (-1) B i (by omega) p (by omega), if_pos (by omega), show p + 256 - i = j by omega, Int.mul_left_comm, Int.neg_mul, Int.one_mul]
theorem qx_low {i j : Nat} : qx i (i + j) = j := by unfold qx; rw [if_neg (by omega)]; omega
theorem qx_high {i j p : Nat} (hj : j < 256) (hp : i + j = p + 256) : qx i p = j := by unfold qx; rw [if_pos (by omega)]; omega
theorem step {i j p : Nat} (hi : i < 256) (hp : p < 256) (hq : qx i p = j) (v : Int) (hv : v = sl A B i j p + tm A B i p) : FL .i64 256 (upd (sl A B i j) p v) = FL .i64 256 (sl A B i (j + 1)) := by
  subst hv
  refine fl_congr .i64 256 fun r hr => ?_
  unfold upd
  by_cases h : r = p
  · subst h
    rw [if_pos rfl]
    unfold sl
    rw [if_neg (by omega), if_pos (by omega)]
    omega
  · rw [if_neg h]
    have hne : qx i r ≠ j := by
      intro h2
      apply h
      rw [← hq] at h2
      unfold qx at h2
      split at h2 <;> split at h2 <;> omega
    unfold sl
    by_cases h3 : qx i r < j
    · rw [if_pos h3, if_pos (by omega)]
    · rw [if_neg h3, if_neg (by omega)]
theorem tm_bound (hA : ∀ i, 0 ≤ A i ∧ A i < 8380417) (hB : ∀ i, 0 ≤ B i ∧ B i < 8380417) {i p : Nat} (hi : i ≤ 256) (hp : p < 256) : -70231389093889 ≤ tm A B i p ∧ tm A B i p ≤ 70231389093889 := by
  have key : ∀ a b : Int, 0 ≤ a ∧ a < 8380417 → 0 ≤ b ∧ b < 8380417 → 0 ≤ a * b ∧ a * b ≤ 70231389093889 := fun a b ha hb =>
    ⟨Int.mul_nonneg ha.1 hb.1, Int.le_trans (Int.mul_le_mul_of_nonneg_right (show a ≤ 8380417 by omega) hb.1) (show 8380417 * b ≤ 70231389093889 by omega)⟩
  unfold tm
  rw [shi_low 256 (-1) B i hi p hp]
  split
  · have h := key _ _ (hA i) (hB (p + 256 - i))
    rw [Int.mul_left_comm, Int.neg_mul, Int.one_mul]
    omega
  · have h := key _ _ (hA i) (hB (p - i))
    omega
theorem sm_bound (f : Nat → Int) (b : Int) (n : Nat) (h : ∀ i, i < n → -b ≤ f i ∧ f i ≤ b) : -(b * n) ≤ sm f n ∧ sm f n ≤ b * n := by
  induction n with
  | zero => simp [sm]
  | succ n ih =>
    have h1 := ih (fun i hi => h i (by omega))
    have h2 := h n (by omega)
    have h3 : b * ((n + 1 : Nat) : Int) = b * (n : Int) + b := by rw [Int.natCast_add, Int.mul_add]; simp
    rw [h3, sm]
    omega
theorem sl_bound (hA : ∀ i, 0 ≤ A i ∧ A i < 8380417) (hB : ∀ i, 0 ≤ B i ∧ B i < 8380417) {i j p : Nat} (hi : i < 256) (hp : p < 256) : -18049466997129473 ≤ sl A B i j p ∧ sl A B i j p ≤ 18049466997129473 := by
  have h1 := sm_bound (fun k => tm A B k p) 70231389093889 i (fun k hk => tm_bound A B hA hB (by omega) hp)
  have h2 := tm_bound A B hA hB (i := i) (p := p) (by omega) hp
  unfold sl
  split <;> omega
end Go.Proofs.Ytbbealdamampaaa.ntts
