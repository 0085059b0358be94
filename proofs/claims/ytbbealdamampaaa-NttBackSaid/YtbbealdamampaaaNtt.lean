/-
  The document's roots of the ring are those of the transform: each one's square is the one above it, or its opposite; each meets its inverse. No program is named here. Conditions: none.
-/
import Derived.Test.YtbbealdamampaaaNtm
import Derived.Test.YtbbealdamampaaaTabP
namespace Go.Proofs.Ytbbealdamampaaa.nttt
open Go.Proofs.Ytbbealdamampaaa.tabt Go.Proofs.Ytbbealdamampaaa.nttm Go.Proofs.Ytbbealdamampaaa.nttp

/-- root k of the tables -/
def ζ (k : Nat) : Int := ((zt k : Nat) : Int)
/-- the number whose opposite the ring's power is, at block k -/
def ρ (k : Nat) : Int := if k = 1 then -1 else if k % 2 = 0 then ζ (k / 2) else - ζ (k / 2)
theorem inv_nat : ∀ m : Fin 8, ∀ t : Fin 128, t.val < 2 ^ m.val → (zt (2 ^ m.val + t.val) * zt (2 * 2 ^ m.val - 1 - t.val) + 1) % 8380417 = 0 := by decide +kernel
theorem sq_even : ∀ k : Fin 128, 0 < k.val → zt (2 * k.val) * zt (2 * k.val) % 8380417 = zt k.val % 8380417 := by decide +kernel
theorem sq_odd : ∀ k : Fin 128, 0 < k.val → (zt (2 * k.val + 1) * zt (2 * k.val + 1) + zt k.val) % 8380417 = 0 := by decide +kernel
theorem sq_top : (zt 1 * zt 1 + 1) % 8380417 = 0 := by decide +kernel
theorem inv_doc : Inv ζ := by
  intro m hm t ht
  have h128 : 2 ^ m ≤ 128 := Nat.le_trans (Nat.pow_le_pow_right (by decide) hm) (by decide)
  have h := inv_nat ⟨m, by omega⟩ ⟨t, by omega⟩ ht
  unfold Cg ζ
  rw [← Int.natCast_mul]
  simp only at h
  generalize zt (2 ^ m + t) * zt (2 * 2 ^ m - 1 - t) = x at h ⊢
  omega
theorem sq_doc : Sq ζ ρ where
  top := by unfold ρ; rw [if_pos rfl]; exact cg_refl _
  sq := by
    intro k h0 h
    unfold ρ
    by_cases h1 : k = 1
    · subst h1
      rw [if_pos rfl]
      have h9 := sq_top
      unfold Cg ζ
      rw [← Int.natCast_mul]
      generalize zt 1 * zt 1 = x at h9 ⊢
      omega
    · rw [if_neg h1]
      by_cases h2 : k % 2 = 0
      · rw [if_pos h2]
        have h9 := sq_even ⟨k / 2, by omega⟩ (by show 0 < k / 2; omega)
        simp only at h9
        rw [show 2 * (k / 2) = k by omega] at h9
        unfold Cg ζ
        rw [← Int.natCast_mul]
        generalize zt k * zt k = x at h9 ⊢
        omega
      · rw [if_neg h2]
        have h9 := sq_odd ⟨k / 2, by omega⟩ (by show 0 < k / 2; omega)
        simp only at h9
        rw [show 2 * (k / 2) + 1 = k by omega] at h9
        unfold Cg ζ
        rw [← Int.natCast_mul]
        generalize zt k * zt k = x at h9 ⊢
        omega
  lo := by
    intro k h0 h
    unfold ρ
    rw [if_neg (by omega), if_pos (by omega), show 2 * k / 2 = k by omega]
    exact cg_refl _
  hi := by
    intro k h0 h
    unfold ρ
    rw [if_neg (by omega), if_neg (by omega), show (2 * k + 1) / 2 = k by omega]
    exact cg_refl _
theorem product_doc (f g : Nat → Int) (j : Nat) (hj : j < 256) : Cg (8347681 * back ζ 8 (fun i => there ζ 8 f i * there ζ 8 g i) j) (mul 256 (-1) f g j) := product ζ ρ inv_doc sq_doc f g j hj
theorem mul_comm_doc (f g : Nat → Int) (j : Nat) (hj : j < 256) : Cg (mul 256 (-1) f g j) (mul 256 (-1) g f j) := by
  have h1 := product_doc f g j hj
  have h2 := product_doc g f j hj
  have e : (fun i => there ζ 8 f i * there ζ 8 g i) = fun i => there ζ 8 g i * there ζ 8 f i := by funext i; exact Int.mul_comm _ _
  rw [e] at h1
  exact cg_trans (cg_symm h1) h2
end Go.Proofs.Ytbbealdamampaaa.nttt
