/-
  Plain facts on numbers for layer 2 (tables): powers modulo the prime, Fermat's little theorem at it, long numbers as lists of parts, roots. No program is named here. Conditions: as each theorem says.
  Plain facts on the first hundred primes (layer 2). No program is named here. Conditions: as each theorem says.
  Plain facts on the tables of layer 2: Keccak's round constants and rotations, the ring's roots of unity. No program is named here. Conditions: as each theorem says.
-/
import Derived.Test.YtbbealdamampaaaBase
import Derived.Below
import Derived.Lib.Tables
import Derived.Laws.BitsAllLaws
namespace Go.Proofs.Ytbbealdamampaaa.tabm

/-! ### Fermat's little theorem -/
def ch : Nat → Nat → Nat
  | _, 0 => 1
  | 0, _ + 1 => 0
  | n + 1, k + 1 => ch n k + ch n (k + 1)
theorem ch_zero (n : Nat) : ch n 0 = 1 := by cases n <;> rfl
theorem ch_succ (n k : Nat) : ch (n + 1) (k + 1) = ch n k + ch n (k + 1) := rfl
theorem ch_above (n : Nat) : ∀ k, n < k → ch n k = 0 := by
  induction n with
  | zero => intro k h; cases k with
    | zero => omega
    | succ k => rfl
  | succ n ih => intro k h; cases k with
    | zero => omega
    | succ k => rw [ch_succ, ih k (by omega), ih (k + 1) (by omega)]
theorem ch_self (n : Nat) : ch n n = 1 := by
  induction n with
  | zero => rfl
  | succ n ih => rw [ch_succ, ih, ch_above n (n + 1) (by omega)]
theorem ch_mul (n : Nat) : ∀ k, (n + 1) * ch n k = ch (n + 1) (k + 1) * (k + 1) := by
  induction n with
  | zero => intro k; cases k with
    | zero => rfl
    | succ k => rw [ch_succ]; rw [ch_above 0 (k + 1) (by omega), ch_above 0 (k + 1 + 1) (by omega)]; simp
  | succ n ih => intro k; cases k with
    | zero =>
      have h := ih 0
      rw [ch_zero] at h ⊢
      rw [ch_succ (n + 1) 0, ch_zero]
      omega
    | succ k =>
      have h1 := ih k
      have h2 := ih (k + 1)
      rw [ch_succ (n + 1) (k + 1), Nat.add_mul (ch (n + 1) (k + 1)), ← h2, Nat.mul_succ (ch (n + 1) (k + 1)), ← h1, Nat.add_mul (n + 1) 1, ch_succ n k, Nat.mul_add]
      omega
/-- the sum of the first terms of the binomial expansion of (a + 1) to the n -/
def bs (a n : Nat) : Nat → Nat
  | 0 => 0
  | m + 1 => bs a n m + ch n m * a ^ m
theorem bs_step (a n m : Nat) : bs a (n + 1) (m + 1) = bs a n (m + 1) + a * bs a n m := by
  induction m with
  | zero => simp [bs, ch_zero]
  | succ m ih =>
    rw [bs, ih, ch_succ, bs, bs, bs, Nat.add_mul, Nat.pow_succ, Nat.mul_add]
    rw [show a * (ch n m * a ^ m) = ch n m * (a ^ m * a) by rw [Nat.mul_comm a, Nat.mul_assoc]]
    omega
theorem binom (a n : Nat) : (a + 1) ^ n = bs a n (n + 1) := by
  induction n with
  | zero => simp [bs, ch_zero]
  | succ n ih =>
    rw [bs_step, Nat.pow_succ, ih]
    rw [show bs a n (n + 1 + 1) = bs a n (n + 1) + ch n (n + 1) * a ^ (n + 1) from rfl, ch_above n (n + 1) (by omega)]
    rw [Nat.mul_succ, Nat.mul_comm a]
    omega
theorem bs_mod (a p : Nat) (h : ∀ k, 0 < k → k < p → p ∣ ch p k) (m : Nat) (hm : m < p) : bs a p (m + 1) % p = 1 % p := by
  induction m with
  | zero => simp [bs, ch_zero]
  | succ m ih =>
    rw [bs, Nat.add_mod, ih (by omega)]
    obtain ⟨c, hc⟩ := h (m + 1) (by omega) hm
    rw [hc, Nat.mul_assoc, Nat.mul_mod_right]
    simp
theorem fermat (p : Nat) (h2 : 2 ≤ p) (hp : ∀ k, 0 < k → k < p → Nat.Coprime p k) (a : Nat) : a ^ p % p = a % p := by
  have hd : ∀ k, 0 < k → k < p → p ∣ ch p k := by
    intro k h0 h1
    obtain ⟨q, rfl⟩ : ∃ q, p = q + 1 := ⟨p - 1, by omega⟩
    obtain ⟨j, rfl⟩ : ∃ j, k = j + 1 := ⟨k - 1, by omega⟩
    have h := ch_mul q j
    exact (hp (j + 1) h0 h1).dvd_of_dvd_mul_right ⟨ch q j, by rw [← h]⟩
  induction a with
  | zero => rw [Nat.zero_pow (by omega)]
  | succ a ih =>
    rw [binom, bs, ch_self, Nat.one_mul, Nat.add_mod, ih]
    obtain ⟨q, rfl⟩ : ∃ q, p = q + 1 := ⟨p - 1, by omega⟩
    rw [bs_mod a (q + 1) hd q (by omega), ← Nat.add_mod, Nat.add_comm]
theorem fermat1 (p m : Nat) (hm : p = m + 1) (h2 : 2 ≤ p) (hp : ∀ k, 0 < k → k < p → Nat.Coprime p k) (a : Nat) (ha : a % p ≠ 0) : a ^ m % p = 1 := by
  subst hm
  have h := fermat (m + 1) h2 hp a
  have hc : Nat.Coprime (m + 1) a := by
    have := hp (a % (m + 1)) (by omega) (Nat.mod_lt _ (by omega))
    unfold Nat.Coprime at this ⊢
    rw [Nat.gcd_rec, Nat.gcd_comm]
    exact this
  have ha1 : 0 < a := by cases a with
    | zero => simp at ha
    | succ a => omega
  have hq : 0 < a ^ m := Nat.pow_pos ha1
  have hdv : (m + 1) ∣ a * (a ^ m - 1) := by
    rw [Nat.mul_sub, Nat.mul_one, Nat.mul_comm, ← Nat.pow_succ]
    exact Nat.dvd_of_mod_eq_zero (Nat.sub_mod_eq_zero_of_mod_eq h)
  obtain ⟨c, hc2⟩ := hc.dvd_of_dvd_mul_left hdv
  have : a ^ m = 1 + (m + 1) * c := by omega
  rw [this, Nat.add_mul_mod_self_left, Nat.mod_eq_of_lt (by omega)]

def noDiv (p : Nat) : Nat → Nat → Bool
  | 0, _ => true
  | f + 1, k => (p % k != 0) && noDiv p f (k + 1)
theorem noDiv_spec (p : Nat) : ∀ f k, noDiv p f k = true → ∀ m, k ≤ m → m < k + f → p % m ≠ 0 := by
  intro f
  induction f with
  | zero => intro k _ m h1 h2; omega
  | succ f ih =>
    intro k h m h1 h2
    simp only [noDiv, Bool.and_eq_true, bne_iff_ne, ne_eq] at h
    by_cases e : m = k
    · subst e; exact h.1
    · exact ih (k + 1) h.2 m (by omega) (by omega)
set_option maxRecDepth 100000 in
theorem noDiv_prime : noDiv 8380417 2894 2 = true := by decide +kernel
theorem prime_coprime (k : Nat) (h0 : 0 < k) (h1 : k < 8380417) : Nat.Coprime 8380417 k := by
  have hd1 := Nat.gcd_dvd_left 8380417 k
  have hd2 := Nat.le_of_dvd h0 (Nat.gcd_dvd_right 8380417 k)
  have hg0 : 0 < Nat.gcd 8380417 k := Nat.gcd_pos_of_pos_right _ h0
  unfold Nat.Coprime
  generalize Nat.gcd 8380417 k = g at *
  obtain ⟨c, hc⟩ := hd1
  by_cases g1 : g = 1
  · exact g1
  exfalso
  have hs := noDiv_spec 8380417 2894 2 noDiv_prime
  by_cases hg : g ≤ 2895
  · refine hs g (by omega) (by omega) ?_
    rw [hc, Nat.mul_mod_right]
  · have hcl : c ≤ 2895 := by
      have : 2896 * c ≤ g * c := Nat.mul_le_mul_right c (by omega)
      omega
    have hc1 : 2 ≤ c := by
      match c, hc with
      | 0, hc => simp at hc
      | 1, hc => omega
      | c + 2, _ => omega
    refine hs c hc1 (by omega) ?_
    rw [hc, Nat.mul_comm, Nat.mul_mod_right]
/-! ### Powers -/
/-- x to the power n modulo p -/
def pwp (p x n : Nat) : Nat := x ^ n % p
theorem pwp_fermat (p m : Nat) (hm : p = m + 1) (h2 : 2 ≤ p) (hp : ∀ k, 0 < k → k < p → Nat.Coprime p k) (a : Nat) (ha : a % p ≠ 0) : pwp p a m = 1 := fermat1 p m hm h2 hp a ha
/-- .. modulo the prime -/
def pw (x n : Nat) : Nat := pwp 8380417 x n
theorem pw_lt (x n : Nat) : pw x n < 8380417 := Nat.mod_lt _ (by omega)
theorem pw_add (x n m : Nat) : pw x n * pw x m % 8380417 = pw x (n + m) := by
  unfold pw pwp; rw [← Nat.mul_mod, Nat.pow_add]
theorem pw_fermat (x : Nat) (h : x % 8380417 ≠ 0) : pw x 8380416 = 1 := pwp_fermat 8380417 8380416 (by decide) (by decide) prime_coprime x h
/-- what the loop keeps: r s^m = x^n -/
def pwk (x n r s m : Nat) : Prop := r * s ^ m % 8380417 = pw x n
theorem pwk_start (x n : Nat) : pwk x n 1 (x % 8380417) n := by
  unfold pwk pw pwp; rw [Nat.one_mul, ← Nat.pow_mod]
theorem pwk_even (x n r s m : Nat) (h : pwk x n r s m) (h2 : m % 2 = 0) : pwk x n r (s * s % 8380417) (m / 2) := by
  unfold pwk at *
  rw [← h, Nat.mul_mod, ← Nat.pow_mod, ← Nat.mul_mod, ← Nat.pow_two, ← Nat.pow_mul, show 2 * (m / 2) = m by omega]
theorem pwk_odd (x n r s m : Nat) (h : pwk x n r s m) (h2 : m % 2 = 1) : pwk x n (r * s % 8380417) (s * s % 8380417) (m / 2) := by
  unfold pwk at *
  rw [← h, Nat.mul_mod, Nat.mod_mod, ← Nat.pow_mod, ← Nat.mul_mod, ← Nat.pow_two, ← Nat.pow_mul, Nat.mul_assoc, ← Nat.pow_succ',
    show (2 * (m / 2)).succ = m by omega]
theorem pwk_end (x n r s : Nat) (h : pwk x n r s 0) (hr : r < 8380417) : r = pw x n := by
  unfold pwk at h; rw [← h, Nat.pow_zero, Nat.mul_one, Nat.mod_eq_of_lt hr]
/-- .. of whole numbers: 0 if one of them is negative -/
def pwI (x n : Int) : Int := if x < 0 ∨ n < 0 then 0 else (pw x.toNat n.toNat : Nat)
end Go.Proofs.Ytbbealdamampaaa.tabm

namespace Go.Proofs.Ytbbealdamampaaa.primm

/-- the first hundred primes -/
def ph : List Nat := [2, 3, 5, 7, 11, 13, 17, 19, 23, 29, 31, 37, 41, 43, 47, 53, 59, 61, 67, 71, 73, 79, 83, 89, 97, 101, 103, 107, 109, 113, 127, 131, 137, 139, 149, 151, 157, 163, 167, 173, 179, 181, 191, 193, 197, 199, 211, 223, 227, 229, 233, 239, 241, 251, 257, 263, 269, 271, 277, 281, 283, 293, 307, 311, 313, 317, 331, 337, 347, 349, 353, 359, 367, 373, 379, 383, 389, 397, 401, 409, 419, 421, 431, 433, 439, 443, 449, 457, 461, 463, 467, 479, 487, 491, 499, 503, 509, 521, 523, 541]
/-- those below x -/
def pl (x : Nat) : List Nat := ph.filter (fun p => p < x)
/-- does one of them divide x? -/
def dvd (l : List Nat) (x : Nat) : Bool := l.any (fun p => x % p == 0)
/-- the first n of them -/
def pr (n : Int) : List Nat := ph.take n.toNat

theorem ph_length : ph.length = 100 := by decide
theorem ph_pos : ∀ p ∈ ph, 2 ≤ p ∧ p ≤ 541 := by decide
def okAt (x : Nat) : Bool :=
  if dvd (pl x) x then pl (x + 1) == pl x else pl (x + 1) == pl x ++ [x]
set_option maxRecDepth 100000 in
theorem ok_all : (List.range 542).all (fun x => x < 2 || (okAt x && (pl x == ph.take (pl x).length))) = true := by decide +kernel
theorem ok_at {x : Nat} (h1 : 2 ≤ x) (h2 : x < 542) : okAt x = true ∧ pl x = ph.take (pl x).length := by
  have h := List.all_eq_true.1 ok_all x (by simpa using h2)
  simp only [Bool.or_eq_true, decide_eq_true_eq, Bool.and_eq_true, beq_iff_eq] at h
  rcases h with h | h
  · omega
  · exact h
theorem pl_two : pl 2 = [] := by decide
set_option maxRecDepth 100000 in
theorem pl_end : pl 542 = ph := by decide +kernel
theorem pl_hit {x : Nat} (h1 : 2 ≤ x) (h2 : x < 542) (hd : dvd (pl x) x = true) : pl (x + 1) = pl x := by
  have h := (ok_at h1 h2).1
  unfold okAt at h
  rw [if_pos hd] at h
  simpa using h
theorem pl_new {x : Nat} (h1 : 2 ≤ x) (h2 : x < 542) (hd : dvd (pl x) x = false) : pl (x + 1) = pl x ++ [x] := by
  have h := (ok_at h1 h2).1
  unfold okAt at h
  rw [if_neg (by simp [hd])] at h
  simpa using h
theorem pl_take {x : Nat} (h1 : 2 ≤ x) (h2 : x ≤ 542) : pl x = ph.take (pl x).length := by
  by_cases h : x < 542
  · exact (ok_at h1 h).2
  · obtain rfl : x = 542 := by omega
    rw [pl_end, List.take_length]
theorem pl_le (x : Nat) : (pl x).length ≤ 100 := by
  rw [← ph_length]; exact List.length_filter_le _ _
theorem pl_pos {x p : Nat} (h : p ∈ pl x) : 2 ≤ p ∧ p ≤ 541 := ph_pos p (List.mem_filter.1 h).1
theorem pl_room {x : Nat} (h2 : x ≤ 542) (hl : (pl x).length < 100) : x < 542 := by
  by_cases h : x < 542
  · exact h
  · obtain rfl : x = 542 := by omega
    rw [pl_end, ph_length] at hl; omega
theorem pr_of {x : Nat} {n : Int} (h1 : 2 ≤ x) (h2 : x ≤ 542) (hl : n ≤ 100 → (pl x).length = n.toNat) (hg : 100 < n → (pl x).length = 100) : pl x = pr n := by
  have h := pl_take h1 h2
  unfold pr
  by_cases hn : n ≤ 100
  · rw [hl hn] at h; exact h
  · rw [hg (by omega)] at h
    rw [h, List.take_of_length_le (by rw [ph_length]; omega), List.take_of_length_le (by rw [ph_length]; omega)]
theorem dvd_nil (x : Nat) : dvd [] x = false := rfl
theorem dvd_snoc (l : List Nat) (p x : Nat) : dvd (l ++ [p]) x = (dvd l x || (x % p == 0)) := by simp [dvd]
theorem dvd_hit {l : List Nat} {k x : Nat} (hk : k < l.length) (h : x % l.getD k 0 = 0) : dvd l x = true := by
  rw [List.getD_eq_getElem?_getD, List.getElem?_eq_getElem hk] at h
  exact List.any_eq_true.2 ⟨l[k], List.getElem_mem hk, by simpa using h⟩
theorem take_snoc {l : List Nat} {k : Nat} (hk : k < l.length) : l.take (k + 1) = l.take k ++ [l.getD k 0] := by
  rw [List.take_succ_eq_append_getElem hk, List.getD_eq_getElem?_getD, List.getElem?_eq_getElem hk]; rfl
end Go.Proofs.Ytbbealdamampaaa.primm

namespace Go.Proofs.Ytbbealdamampaaa.tabt
open Go
open Go.Proofs.Ytbbealdamampaaa.tabm Go.Proofs.Ytbbealdamampaaa.tabd Go.Proofs.Ytbbealdamampaaa.primm

/-! ### Keccak's round constants -/
def lstep (r : Nat) : Nat := if 255 < r * 2 then (r * 2) ^^^ 369 else r * 2
/-- the register after t steps -/
def lf : Nat → Nat
  | 0 => 1
  | t + 1 => lstep (lf t)
/-- the constants after t steps -/
def rl : Nat → List Nat
  | 0 => List.replicate 24 0
  | t + 1 => if lf t % 2 = 1 then (rl t).set (t / 7) ((rl t).getD (t / 7) 0 ||| 2 ^ (2 ^ (t % 7) - 1)) else rl t
theorem lstep_le : ∀ r, r < 256 → lstep r < 256 := by decide +kernel
theorem lf_le (t : Nat) : lf t < 256 := by
  induction t with
  | zero => decide
  | succ t ih => exact lstep_le _ ih
theorem rl_length (t : Nat) : (rl t).length = 24 := by
  induction t with
  | zero => rfl
  | succ t ih => rw [rl]; split <;> simp [ih]
theorem bit_lt (k : Nat) (h : k < 7) : 2 ^ (2 ^ k - 1) < 18446744073709551616 := by
  have : 2 ^ k ≤ 2 ^ 6 := Nat.pow_le_pow_right (by decide) (by omega)
  have h2 : 2 ^ (2 ^ k - 1) < 2 ^ 64 := Nat.pow_lt_pow_right (by decide) (by omega)
  simpa using h2
theorem rl_lt (t : Nat) : ∀ d ∈ rl t, d < 18446744073709551616 := by
  induction t with
  | zero => intro d hd; simp [rl] at hd; omega
  | succ t ih =>
    intro d hd
    rw [rl] at hd
    split at hd
    · rcases List.mem_or_eq_of_mem_set hd with h | h
      · exact ih d h
      · rw [h]
        have h1 : (rl t).getD (t / 7) 0 < 2 ^ 64 := by
          rw [List.getD_eq_getElem?_getD]
          by_cases hk : t / 7 < (rl t).length
          · rw [List.getElem?_eq_getElem hk]; exact Nat.lt_of_lt_of_eq (ih _ (List.getElem_mem hk)) (by decide)
          · rw [List.getElem?_eq_none (by omega)]; decide
        exact Nat.lt_of_lt_of_eq (Nat.or_lt_two_pow h1 (Nat.lt_of_lt_of_eq (bit_lt (t % 7) (Nat.mod_lt _ (by decide))) (by decide))) (by decide)
    · exact ih d hd
theorem rl_getD_lt (t i : Nat) : (rl t).getD i 0 < 18446744073709551616 := by
  rw [List.getD_eq_getElem?_getD]
  by_cases hk : i < (rl t).length
  · rw [List.getElem?_eq_getElem hk]; exact rl_lt t _ (List.getElem_mem hk)
  · rw [List.getElem?_eq_none (by omega)]; decide
theorem rl_odd {i k : Nat} (hk : k < 7) (h : lf (7 * i + k) % 2 = 1) : rl (7 * i + k + 1) = (rl (7 * i + k)).set i ((rl (7 * i + k)).getD i 0 ||| 2 ^ (2 ^ k - 1)) := by
  rw [rl, if_pos h, show (7 * i + k) / 7 = i by omega, show (7 * i + k) % 7 = k by omega]
theorem rl_even {t : Nat} (h : ¬ lf t % 2 = 1) : rl (t + 1) = rl t := by rw [rl, if_neg h]
theorem lf_over {t : Nat} (h : 255 < lf t * 2) : lf (t + 1) = (lf t * 2) ^^^ 369 := by rw [lf, lstep, if_pos h]
theorem lf_in {t : Nat} (h : ¬ 255 < lf t * 2) : lf (t + 1) = lf t * 2 := by rw [lf, lstep, if_neg h]
theorem xor_tab : ∀ r : Nat, r < 256 → bits .xor .i64 ((r : Int) * 2) 369 = (((r * 2) ^^^ 369 : Nat) : Int) := by decide +kernel
theorem and_tab : ∀ r : Nat, r < 256 → (bits .and .i64 ((r : Int) * 2) 256 != 0) = decide (255 < r * 2) := by decide +kernel

theorem shift_tab : ∀ m : Nat, m < 7 → IntKind.u64.wrap (2 ^ min (IntKind.u64.wrap (IntKind.u64.wrap (2 ^ m) - 1)).toNat 64) = ((2 ^ (2 ^ m - 1) : Nat) : Int) := by decide +kernel
theorem or_shift (d m : Nat) (hd : d < 18446744073709551616) (hm : m < 7) :
    bits .or .u64 (d : Int) (IntKind.u64.wrap (2 ^ min (IntKind.u64.wrap (IntKind.u64.wrap (2 ^ m) - 1)).toNat 64)) = ((d ||| 2 ^ (2 ^ m - 1) : Nat) : Int) := by
  rw [shift_tab m hm, u64_or_nat d _ hd (bit_lt m hm)]

/-! ### Keccak's rotations -/
def xy : Nat → Nat × Nat
  | 0 => (1, 0)
  | t + 1 => ((xy t).2, (2 * (xy t).1 + 3 * (xy t).2) % 5)
def tl : Nat → List Nat
  | 0 => List.replicate 25 0
  | t + 1 => (tl t).set ((xy t).1 + 5 * (xy t).2) ((t + 1) * (t + 2) / 2 % 64)
theorem xy_lt (t : Nat) : (xy t).1 < 5 ∧ (xy t).2 < 5 := by
  induction t with
  | zero => decide
  | succ t ih => simp only [xy]; omega
theorem tl_length (t : Nat) : (tl t).length = 25 := by
  induction t with
  | zero => rfl
  | succ t ih => simp [tl, ih]

/-! ### The ring's roots of unity -/
/-- the eight bits of n the other way round, after i bits -/
def rvTo (n : Nat) : Nat → Nat
  | 0 => 0
  | i + 1 => rvTo n i ||| (n / 2 ^ i % 2) * 2 ^ (7 - i)
def rv (n : Nat) : Nat := rvTo n 8
set_option maxRecDepth 100000 in
theorem rev8_tab : ∀ n : Nat, n < 256 → Lib.rev8 (n : Int) = (rv n : Int) := by decide +kernel
set_option maxRecDepth 100000 in
theorem rv_lt : ∀ n : Nat, n < 256 → rv n < 256 := by decide +kernel
def zt (n : Nat) : Nat := pw 1753 (rv n)
def zl : Nat → List Nat
  | 0 => List.replicate 256 0
  | n + 1 => (zl n).set n (zt n)
theorem zl_length (n : Nat) : (zl n).length = 256 := by
  induction n with
  | zero => exact List.length_replicate
  | succ n ih => simp [zl, ih]
theorem zl_get (n : Nat) : ∀ j, j < n → n ≤ 256 → (zl n).getD j 0 = zt j := by
  induction n with
  | zero => intro j h; omega
  | succ n ih =>
    intro j hj hn
    rw [zl, List.getD_eq_getElem?_getD, List.getElem?_set]
    by_cases h : n = j
    · subst h
      rw [if_pos rfl, if_pos (by rw [zl_length]; omega)]
      rfl
    · rw [if_neg h, ← List.getD_eq_getElem?_getD]
      exact ih j (by omega) (by omega)
end Go.Proofs.Ytbbealdamampaaa.tabt
