/-
  Numbers of a fixed width laid into bytes, and bytes read as such numbers, through an accumulator: plain facts, no program is named here. Conditions: as each theorem says.
-/
import Derived.Test.YtdlolhilmhlklaaDoorBitM
namespace Go.Proofs.YtdlolhilmhlklaaDoor.bitn
open Go.Proofs.YtdlolhilmhlklaaDoor.bitm

theorem mod_div_mod (N m a c : Nat) (h : a + c ≤ m) : N % 2 ^ m / 2 ^ a % 2 ^ c = N / 2 ^ a % 2 ^ c := by
  obtain ⟨d, rfl⟩ : ∃ d, m = a + c + d := ⟨m - (a + c), by omega⟩
  rw [Nat.add_assoc, Nat.pow_add, Nat.mod_mul_right_div_self, Nat.pow_add, Nat.mod_mul_right_mod]
theorem held_lt (N m a : Nat) (h : a ≤ m) : N % 2 ^ m / 2 ^ a < 2 ^ (m - a) := by
  rw [Nat.div_lt_iff_lt_mul (Nat.two_pow_pos _), ← Nat.pow_add, Nat.sub_add_cancel h]
  exact Nat.mod_lt _ (Nat.two_pow_pos _)
theorem or_add2 (a b k : Nat) (ha : a < 2 ^ k) : a ||| b * 2 ^ k = a + 2 ^ k * b := by
  rw [Nat.mul_comm, Nat.or_comm, ← Nat.two_pow_add_eq_or_of_lt ha, Nat.add_comm]
theorem or_next (N m a c : Nat) (h : a ≤ m) : (N % 2 ^ m / 2 ^ a) ||| (N / 2 ^ m % 2 ^ c) * 2 ^ (m - a) = N % 2 ^ (m + c) / 2 ^ a := by
  rw [or_add2 _ _ _ (held_lt N m a h)]
  obtain ⟨d, rfl⟩ : ∃ d, m = a + d := ⟨m - a, by omega⟩
  rw [Nat.add_sub_cancel_left, Nat.pow_add 2 (a + d) c, Nat.mod_mul, Nat.pow_add 2 a d, Nat.mul_assoc, Nat.add_mul_div_left _ _ (Nat.two_pow_pos _)]
theorem nb_snoc (w b N : Nat) : nb w (b + 1) N = nb w b N ++ [N / 2 ^ (w * b) % 2 ^ w] := by
  apply List.ext_getElem?
  intro i
  by_cases h : i < b
  · rw [nb_get w (b + 1) N i (by omega), List.getElem?_append_left (by rw [nb_length]; exact h), nb_get w b N i h]
  · by_cases h2 : i = b
    · subst h2
      rw [nb_get w (i + 1) N i (by omega), List.getElem?_append_right (by rw [nb_length]; omega), nb_length, Nat.sub_self]
      rfl
    · rw [List.getElem?_eq_none (by rw [nb_length]; omega), List.getElem?_eq_none (by rw [List.length_append, nb_length]; simp; omega)]
theorem pow_small (k n : Nat) (h : k ≤ n) : 2 ^ k ≤ 2 ^ n := Nat.pow_le_pow_right (by decide) h
end Go.Proofs.YtdlolhilmhlklaaDoor.bitn
