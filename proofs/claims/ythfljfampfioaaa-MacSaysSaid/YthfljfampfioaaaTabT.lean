/-
  Plain facts on the tables of layer 2: Keccak's round constants and rotations, the ring's roots of unity. No program is named here. Conditions: as each theorem says.
-/
import Derived.Test.YthfljfampfioaaaTabM
import Derived.Test.YthfljfampfioaaaPrimM
import Derived.Test.YthfljfampfioaaaTabD
import Derived.Lib.Tables
import Derived.Laws.BitsAllLaws
namespace Go.Proofs.Ythfljfampfioaaa.tabt
open Go
open Go.Proofs.Ythfljfampfioaaa.tabm Go.Proofs.Ythfljfampfioaaa.tabd Go.Proofs.Ythfljfampfioaaa.primm

/-! ### Keccak's round constants -/
def lstep (r : Nat) : Nat := if 255 < r * 2 then (r * 2) ^^^ 369 else r * 2
/-- the register after t steps -/
def lf : Nat → Nat
  | 0 => 1
  | t + 1 => lstep (lf t)
/-- the constants after t steps -/
def rl : Nat → List Nat
  | 0 => List.replicate 24 0
  | t + 1 => if lf t % 2 = 1 then (rl t).set (t / 7) ((rl t).getD (t / 7) 0 ||| 2 ^ (2 ^ (t % 7) - 1)) else rl t
theorem lstep_le : ∀ r, r < 256 → lstep r < 256 := by decide +kernel
theorem lf_le (t : Nat) : lf t < 256 := by
  induction t with
  | zero => decide
  | succ t ih => exact lstep_le _ ih
theorem rl_length (t : Nat) : (rl t).length = 24 := by
  induction t with
  | zero => rfl
  | succ t ih => rw [rl]; split <;> simp [ih]
theorem bit_lt (k : Nat) (h : k < 7) : 2 ^ (2 ^ k - 1) < 18446744073709551616 := by
  have : 2 ^ k ≤ 2 ^ 6 := Nat.pow_le_pow_right (by decide) (by omega)
  have h2 : 2 ^ (2 ^ k - 1) < 2 ^ 64 := Nat.pow_lt_pow_right (by decide) (by omega)
  simpa using h2
theorem rl_lt (t : Nat) : ∀ d ∈ rl t, d < 18446744073709551616 := by
  induction t with
  | zero => intro d hd; simp [rl] at hd; omega
  | succ t ih =>
    intro d hd
    rw [rl] at hd
    split at hd
    · rcases List.mem_or_eq_of_mem_set hd with h | h
      · exact ih d h
      · rw [h]
        have h1 : (rl t).getD (t / 7) 0 < 2 ^ 64 := by
          rw [List.getD_eq_getElem?_getD]
          by_cases hk : t / 7 < (rl t).length
          · rw [List.getElem?_eq_getElem hk]; exact Nat.lt_of_lt_of_eq (ih _ (List.getElem_mem hk)) (by decide)
          · rw [List.getElem?_eq_none (by omega)]; decide
        exact Nat.lt_of_lt_of_eq (Nat.or_lt_two_pow h1 (Nat.lt_of_lt_of_eq (bit_lt (t % 7) (Nat.mod_lt _ (by decide))) (by decide))) (by decide)
    · exact ih d hd
theorem rl_getD_lt (t i : Nat) : (rl t).getD i 0 < 18446744073709551616 := by
  rw [List.getD_eq_getElem?_getD]
  by_cases hk : i < (rl t).length
  · rw [List.getElem?_eq_getElem hk]; exact rl_lt t _ (List.getElem_mem hk)
  · rw [List.getElem?_eq_none (by omega)]; decide
theorem rl_odd {i k : Nat} (hk : k < 7) (h : lf (7 * i + k) % 2 = 1) : rl (7 * i + k + 1) = (rl (7 * i + k)).set i ((rl (7 * i + k)).getD i 0 ||| 2 ^ (2 ^ k - 1)) := by
  rw [rl, if_pos h, show (7 * i + k) / 7 = i by omega, show (7 * i + k) % 7 = k by omega]
theorem rl_even {t : Nat} (h : ¬ lf t % 2 = 1) : rl (t + 1) = rl t := by rw [rl, if_neg h]
theorem lf_over {t : Nat} (h : 255 < lf t * 2) : lf (t + 1) = (lf t * 2) ^^^ 369 := by rw [lf, lstep, if_pos h]
theorem lf_in {t : Nat} (h : ¬ 255 < lf t * 2) : lf (t + 1) = lf t * 2 := by rw [lf, lstep, if_neg h]
theorem xor_tab : ∀ r : Nat, r < 256 → bits .xor .i64 ((r : Int) * 2) 369 = (((r * 2) ^^^ 369 : Nat) : Int) := by decide +kernel
theorem and_tab : ∀ r : Nat, r < 256 → (bits .and .i64 ((r : Int) * 2) 256 != 0) = decide (255 < r * 2) := by decide +kernel

theorem shift_tab : ∀ m : Nat, m < 7 → IntKind.u64.wrap (2 ^ min (IntKind.u64.wrap (IntKind.u64.wrap (2 ^ m) - 1)).toNat 64) = ((2 ^ (2 ^ m - 1) : Nat) : Int) := by decide +kernel
theorem or_shift (d m : Nat) (hd : d < 18446744073709551616) (hm : m < 7) :
    bits .or .u64 (d : Int) (IntKind.u64.wrap (2 ^ min (IntKind.u64.wrap (IntKind.u64.wrap (2 ^ m) - 1)).toNat 64)) = ((d ||| 2 ^ (2 ^ m - 1) : Nat) : Int) := by
  rw [shift_tab m hm, u64_or_nat d _ hd (bit_lt m hm)]

/-! ### Keccak's rotations -/
def xy : Nat → Nat × Nat
  | 0 => (1, 0)
  | t + 1 => ((xy t).2, (2 * (xy t).1 + 3 * (xy t).2) % 5)
def tl : Nat → List Nat
  | 0 => List.replicate 25 0
  | t + 1 => (tl t).set ((xy t).1 + 5 * (xy t).2) ((t + 1) * (t + 2) / 2 % 64)
theorem xy_lt (t : Nat) : (xy t).1 < 5 ∧ (xy t).2 < 5 := by
  induction t with
  | zero => decide
  | succ t ih => simp only [xy]; omega
theorem tl_length (t : Nat) : (tl t).length = 25 := by
  induction t with
  | zero => rfl
  | succ t ih => simp [tl, ih]

/-! ### The ring's roots of unity -/
/-- the eight bits of n the other way round, after i bits -/
def rvTo (n : Nat) : Nat → Nat
  | 0 => 0
  | i + 1 => rvTo n i ||| (n / 2 ^ i % 2) * 2 ^ (7 - i)
def rv (n : Nat) : Nat := rvTo n 8
set_option maxRecDepth 100000 in
theorem rev8_tab : ∀ n : Nat, n < 256 → Lib.rev8 (n : Int) = (rv n : Int) := by decide +kernel
set_option maxRecDepth 100000 in
theorem rv_lt : ∀ n : Nat, n < 256 → rv n < 256 := by decide +kernel
def zt (n : Nat) : Nat := pw 1753 (rv n)
def zl : Nat → List Nat
  | 0 => List.replicate 256 0
  | n + 1 => (zl n).set n (zt n)
theorem zl_length (n : Nat) : (zl n).length = 256 := by
  induction n with
  | zero => exact List.length_replicate
  | succ n ih => simp [zl, ih]
theorem zl_get (n : Nat) : ∀ j, j < n → n ≤ 256 → (zl n).getD j 0 = zt j := by
  induction n with
  | zero => intro j h; omega
  | succ n ih =>
    intro j hj hn
    rw [zl, List.getD_eq_getElem?_getD, List.getElem?_set]
    by_cases h : n = j
    · subst h
      rw [if_pos rfl, if_pos (by rw [zl_length]; omega)]
      rfl
    · rw [if_neg h, ← List.getD_eq_getElem?_getD]
      exact ih j (by omega) (by omega)
end Go.Proofs.Ythfljfampfioaaa.tabt
