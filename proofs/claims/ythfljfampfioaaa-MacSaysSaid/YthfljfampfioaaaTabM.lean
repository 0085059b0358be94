/-
  Plain facts on numbers for layer 2 (tables): powers modulo the prime, Fermat's little theorem at it, long numbers as lists of parts, roots. No program is named here. Conditions: as each theorem says.
-/
import Derived.Below
namespace Go.Proofs.Ythfljfampfioaaa.tabm

/-! ### Fermat's little theorem -/
def ch : Nat → Nat → Nat
  | _, 0 => 1
  | 0, _ + 1 => 0
  | n + 1, k + 1 => ch n k + ch n (k + 1)
theorem ch_zero (n : Nat) : ch n 0 = 1 := by cases n <;> rfl
theorem ch_succ (n k : Nat) : ch (n + 1) (k + 1) = ch n k + ch n (k + 1) := rfl
theorem ch_above (n : Nat) : ∀ k, n < k → ch n k = 0 := by
  induction n with
  | zero => intro k h; cases k with
    | zero => omega
    | succ k => rfl
  | succ n ih => intro k h; cases k with
    | zero => omega
    | succ k => rw [ch_succ, ih k (by omega), ih (k + 1) (by omega)]
theorem ch_self (n : Nat) : ch n n = 1 := by
  induction n with
  | zero => rfl
  | succ n ih => rw [ch_succ, ih, ch_above n (n + 1) (by omega)]
theorem ch_mul (n : Nat) : ∀ k, (n + 1) * ch n k = ch (n + 1) (k + 1) * (k + 1) := by
  induction n with
  | zero => intro k; cases k with
    | zero => rfl
    | succ k => rw [ch_succ]; rw [ch_above 0 (k + 1) (by omega), ch_above 0 (k + 1 + 1) (by omega)]; simp
  | succ n ih => intro k; cases k with
    | zero =>
      have h := ih 0
      rw [ch_zero] at h ⊢
      rw [ch_succ (n + 1) 0, ch_zero]
      omega
    | succ k =>
      have h1 := ih k
      have h2 := ih (k + 1)
      rw [ch_succ (n + 1) (k + 1), Nat.add_mul (ch (n + 1) (k + 1)), ← h2, Nat.mul_succ (ch (n + 1) (k + 1)), ← h1, Nat.add_mul (n + 1) 1, ch_succ n k, Nat.mul_add]
      omega
/-- the sum of the first terms of the binomial expansion of (a + 1) to the n -/
def bs (a n : Nat) : Nat → Nat
  | 0 => 0
  | m + 1 => bs a n m + ch n m * a ^ m
theorem bs_step (a n m : Nat) : bs a (n + 1) (m + 1) = bs a n (m + 1) + a * bs a n m := by
  induction m with
  | zero => simp [bs, ch_zero]
  | succ m ih =>
    rw [bs, ih, ch_succ, bs, bs, bs, Nat.add_mul, Nat.pow_succ, Nat.mul_add]
    rw [show a * (ch n m * a ^ m) = ch n m * (a ^ m * a) by rw [Nat.mul_comm a, Nat.mul_assoc]]
    omega
theorem binom (a n : Nat) : (a + 1) ^ n = bs a n (n + 1) := by
  induction n with
  | zero => simp [bs, ch_zero]
  | succ n ih =>
    rw [bs_step, Nat.pow_succ, ih]
    rw [show bs a n (n + 1 + 1) = bs a n (n + 1) + ch n (n + 1) * a ^ (n + 1) from rfl, ch_above n (n + 1) (by omega)]
    rw [Nat.mul_succ, Nat.mul_comm a]
    omega
theorem bs_mod (a p : Nat) (h : ∀ k, 0 < k → k < p → p ∣ ch p k) (m : Nat) (hm : m < p) : bs a p (m + 1) % p = 1 % p := by
  induction m with
  | zero => simp [bs, ch_zero]
  | succ m ih =>
    rw [bs, Nat.add_mod, ih (by omega)]
    obtain ⟨c, hc⟩ := h (m + 1) (by omega) hm
    rw [hc, Nat.mul_assoc, Nat.mul_mod_right]
    simp
theorem fermat (p : Nat) (h2 : 2 ≤ p) (hp : ∀ k, 0 < k → k < p → Nat.Coprime p k) (a : Nat) : a ^ p % p = a % p := by
  have hd : ∀ k, 0 < k → k < p → p ∣ ch p k := by
    intro k h0 h1
    obtain ⟨q, rfl⟩ : ∃ q, p = q + 1 := ⟨p - 1, by omega⟩
    obtain ⟨j, rfl⟩ : ∃ j, k = j + 1 := ⟨k - 1, by omega⟩
    have h := ch_mul q j
    exact (hp (j + 1) h0 h1).dvd_of_dvd_mul_right ⟨ch q j, by rw [← h]⟩
  induction a with
  | zero => rw [Nat.zero_pow (by omega)]
  | succ a ih =>
    rw [binom, bs, ch_self, Nat.one_mul, Nat.add_mod, ih]
    obtain ⟨q, rfl⟩ : ∃ q, p = q + 1 := ⟨p - 1, by omega⟩
    rw [bs_mod a (q + 1) hd q (by omega), ← Nat.add_mod, Nat.add_comm]
theorem fermat1 (p m : Nat) (hm : p = m + 1) (h2 : 2 ≤ p) (hp : ∀ k, 0 < k → k < p → Nat.Coprime p k) (a : Nat) (ha : a % p ≠ 0) : a ^ m % p = 1 := by
  subst hm
  have h := fermat (m + 1) h2 hp a
  have hc : Nat.Coprime (m + 1) a := by
    have := hp (a % (m + 1)) (by omega) (Nat.mod_lt _ (by omega))
    unfold Nat.Coprime at this ⊢
    rw [Nat.gcd_rec, Nat.gcd_comm]
    exact this
  have ha1 : 0 < a := by cases a with
    | zero => simp at ha
    | succ a => omega
  have hq : 0 < a ^ m := Nat.pow_pos ha1
  have hdv : (m + 1) ∣ a * (a ^ m - 1) := by
    rw [Nat.mul_sub, Nat.mul_one, Nat.mul_comm, ← Nat.pow_succ]
    exact Nat.dvd_of_mod_eq_zero (Nat.sub_mod_eq_zero_of_mod_eq h)
  obtain ⟨c, hc2⟩ := hc.dvd_of_dvd_mul_left hdv
  have : a ^ m = 1 + (m + 1) * c := by omega
  rw [this, Nat.add_mul_mod_self_left, Nat.mod_eq_of_lt (by omega)]

def noDiv (p : Nat) : Nat → Nat → Bool
  | 0, _ => true
  | f + 1, k => (p % k != 0) && noDiv p f (k + 1)
theorem noDiv_spec (p : Nat) : ∀ f k, noDiv p f k = true → ∀ m, k ≤ m → m < k + f → p % m ≠ 0 := by
  intro f
  induction f with
  | zero => intro k _ m h1 h2; omega
  | succ f ih =>
    intro k h m h1 h2
    simp only [noDiv, Bool.and_eq_true, bne_iff_ne, ne_eq] at h
    by_cases e : m = k
    · subst e; exact h.1
    · exact ih (k + 1) h.2 m (by omega) (by omega)
set_option maxRecDepth 100000 in
theorem noDiv_prime : noDiv 8380417 2894 2 = true := by decide +kernel
theorem prime_coprime (k : Nat) (h0 : 0 < k) (h1 : k < 8380417) : Nat.Coprime 8380417 k := by
  have hd1 := Nat.gcd_dvd_left 8380417 k
  have hd2 := Nat.le_of_dvd h0 (Nat.gcd_dvd_right 8380417 k)
  have hg0 : 0 < Nat.gcd 8380417 k := Nat.gcd_pos_of_pos_right _ h0
  unfold Nat.Coprime
  generalize Nat.gcd 8380417 k = g at *
  obtain ⟨c, hc⟩ := hd1
  by_cases g1 : g = 1
  · exact g1
  exfalso
  have hs := noDiv_spec 8380417 2894 2 noDiv_prime
  by_cases hg : g ≤ 2895
  · refine hs g (by omega) (by omega) ?_
    rw [hc, Nat.mul_mod_right]
  · have hcl : c ≤ 2895 := by
      have : 2896 * c ≤ g * c := Nat.mul_le_mul_right c (by omega)
      omega
    have hc1 : 2 ≤ c := by
      match c, hc with
      | 0, hc => simp at hc
      | 1, hc => omega
      | c + 2, _ => omega
    refine hs c hc1 (by omega) ?_
    rw [hc, Nat.mul_comm, Nat.mul_mod_right]
/-! ### Powers -/
/-- x to the power n modulo p -/
def pwp (p x n : Nat) : Nat := x ^ n % p
theorem pwp_fermat (p m : Nat) (hm : p = m + 1) (h2 : 2 ≤ p) (hp : ∀ k, 0 < k → k < p → Nat.Coprime p k) (a : Nat) (ha : a % p ≠ 0) : pwp p a m = 1 := fermat1 p m hm h2 hp a ha
/-- .. modulo the prime -/
def pw (x n : Nat) : Nat := pwp 8380417 x n
theorem pw_lt (x n : Nat) : pw x n < 8380417 := Nat.mod_lt _ (by omega)
theorem pw_add (x n m : Nat) : pw x n * pw x m % 8380417 = pw x (n + m) := by
  unfold pw pwp; rw [← Nat.mul_mod, Nat.pow_add]
theorem pw_fermat (x : Nat) (h : x % 8380417 ≠ 0) : pw x 8380416 = 1 := pwp_fermat 8380417 8380416 (by decide) (by decide) prime_coprime x h
/-- what the loop keeps: r s^m = x^n -/
def pwk (x n r s m : Nat) : Prop := r * s ^ m % 8380417 = pw x n
theorem pwk_start (x n : Nat) : pwk x n 1 (x % 8380417) n := by
  unfold pwk pw pwp; rw [Nat.one_mul, ← Nat.pow_mod]
theorem pwk_even (x n r s m : Nat) (h : pwk x n r s m) (h2 : m % 2 = 0) : pwk x n r (s * s % 8380417) (m / 2) := by
  unfold pwk at *
  rw [← h, Nat.mul_mod, ← Nat.pow_mod, ← Nat.mul_mod, ← Nat.pow_two, ← Nat.pow_mul, show 2 * (m / 2) = m by omega]
theorem pwk_odd (x n r s m : Nat) (h : pwk x n r s m) (h2 : m % 2 = 1) : pwk x n (r * s % 8380417) (s * s % 8380417) (m / 2) := by
  unfold pwk at *
  rw [← h, Nat.mul_mod, Nat.mod_mod, ← Nat.pow_mod, ← Nat.mul_mod, ← Nat.pow_two, ← Nat.pow_mul, Nat.mul_assoc, ← Nat.pow_succ',
    show (2 * (m / 2)).succ = m by omega]
theorem pwk_end (x n r s : Nat) (h : pwk x n r s 0) (hr : r < 8380417) : r = pw x n := by
  unfold pwk at h; rw [← h, Nat.pow_zero, Nat.mul_one, Nat.mod_eq_of_lt hr]
/-- .. of whole numbers: 0 if one of them is negative -/
def pwI (x n : Int) : Int := if x < 0 ∨ n < 0 then 0 else (pw x.toNat n.toNat : Nat)
end Go.Proofs.Ythfljfampfioaaa.tabm
