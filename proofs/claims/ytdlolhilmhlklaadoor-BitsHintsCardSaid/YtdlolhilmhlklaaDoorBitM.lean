/-
  Numbers of a fixed width laid bit by bit into bytes, and read again: by the one great number that they make. No program is named here. Conditions: as each theorem says.
-/
namespace Go.Proofs.YtdlolhilmhlklaaDoor.bitm

/-- numbers of w bits as one number, the first one lowest -/
def pk (w : Nat) : List Nat → Nat
  | [] => 0
  | x :: l => x + 2 ^ w * pk w l
/-- n numbers of w bits of a number -/
def nb (w : Nat) : Nat → Nat → List Nat
  | 0, _ => []
  | n + 1, N => N % 2 ^ w :: nb w n (N / 2 ^ w)
theorem nb_length (w n N : Nat) : (nb w n N).length = n := by
  induction n generalizing N with
  | zero => rfl
  | succ n ih => rw [nb, List.length_cons, ih]
theorem nb_get (w n N i : Nat) (h : i < n) : (nb w n N)[i]? = some (N / 2 ^ (w * i) % 2 ^ w) := by
  induction n generalizing N i with
  | zero => omega
  | succ n ih =>
    rw [nb]
    cases i with
    | zero => simp
    | succ i =>
      rw [List.getElem?_cons_succ, ih (N / 2 ^ w) i (by omega), Nat.div_div_eq_div_mul, ← Nat.pow_add, Nat.mul_succ, Nat.add_comm w]
theorem nb_lt (w n N : Nat) : ∀ x ∈ nb w n N, x < 2 ^ w := by
  induction n generalizing N with
  | zero => intro x hx; cases hx
  | succ n ih =>
    intro x hx
    rw [nb, List.mem_cons] at hx
    rcases hx with rfl | hx
    · exact Nat.mod_lt _ (Nat.two_pow_pos _)
    · exact ih _ x hx
theorem pk_lt (w : Nat) (l : List Nat) (h : ∀ x ∈ l, x < 2 ^ w) : pk w l < 2 ^ (w * l.length) := by
  induction l with
  | nil => simp [pk]
  | cons x l ih =>
    have h1 := h x (by simp)
    have h2 := ih (fun y hy => h y (by simp [hy]))
    rw [pk, List.length_cons, Nat.mul_succ, Nat.add_comm (w * l.length), Nat.pow_add]
    calc x + 2 ^ w * pk w l < 2 ^ w + 2 ^ w * pk w l := by omega
      _ = 2 ^ w * (pk w l + 1) := by rw [Nat.mul_succ, Nat.add_comm]
      _ ≤ 2 ^ w * 2 ^ (w * l.length) := Nat.mul_le_mul_left _ h2
theorem nb_pk (w : Nat) (l : List Nat) (h : ∀ x ∈ l, x < 2 ^ w) : nb w l.length (pk w l) = l := by
  induction l with
  | nil => rfl
  | cons x l ih =>
    have h1 := h x (by simp)
    rw [List.length_cons, nb, pk, Nat.add_mul_mod_self_left, Nat.mod_eq_of_lt h1, Nat.add_mul_div_left _ _ (Nat.two_pow_pos _), Nat.div_eq_of_lt h1, Nat.zero_add, ih (fun y hy => h y (by simp [hy]))]
theorem pk_nb (w n N : Nat) : pk w (nb w n N) = N % 2 ^ (w * n) := by
  induction n generalizing N with
  | zero => simp [nb, pk, Nat.mod_one]
  | succ n ih =>
    rw [nb, pk, ih, Nat.mul_succ, Nat.add_comm (w * n), Nat.pow_add, Nat.mod_mul]
/-- numbers of w bits as bytes, and bytes as numbers of w bits -/
theorem read_laid (w n m : Nat) (l : List Nat) (hl : l.length = n) (h : ∀ x ∈ l, x < 2 ^ w) (hm : w * n = 8 * m) : nb w n (pk 8 (nb 8 m (pk w l))) = l := by
  subst hl
  rw [pk_nb, ← hm, Nat.mod_eq_of_lt (pk_lt w l h), nb_pk w l h]
theorem laid_read (w n m : Nat) (s : List Nat) (hs : s.length = m) (h : ∀ x ∈ s, x < 2 ^ 8) (hm : w * n = 8 * m) : nb 8 m (pk w (nb w n (pk 8 s))) = s := by
  subst hs
  rw [pk_nb, hm, Nat.mod_eq_of_lt (pk_lt 8 s h), nb_pk 8 s h]
/-- bit w i + k of the whole is bit k of number i -/
theorem pk_at (w : Nat) (l : List Nat) (h : ∀ x ∈ l, x < 2 ^ w) (i : Nat) (hi : i < l.length) : pk w l / 2 ^ (w * i) % 2 ^ w = l[i] := by
  have h1 := nb_get w l.length (pk w l) i hi
  rw [nb_pk w l h, List.getElem?_eq_getElem hi] at h1
  exact (Option.some.inj h1).symm
theorem bit_in (N w k : Nat) (h : k < w) : N % 2 ^ w / 2 ^ k % 2 = N / 2 ^ k % 2 := by
  have e : 2 ^ w = 2 ^ k * (2 * 2 ^ (w - k - 1)) := by
    rw [← Nat.pow_succ', ← Nat.pow_add]; congr 1; omega
  rw [e, Nat.mod_mul_right_div_self, Nat.mod_mul_right_mod]
theorem pk_bit (w : Nat) (l : List Nat) (h : ∀ x ∈ l, x < 2 ^ w) (i k : Nat) (hi : i < l.length) (hk : k < w) : pk w l / 2 ^ (w * i + k) % 2 = l[i] / 2 ^ k % 2 := by
  rw [← pk_at w l h i hi, bit_in _ w k hk, Nat.div_div_eq_div_mul, ← Nat.pow_add]
/-- one bit further -/
theorem mod_succ (N m : Nat) : N % 2 ^ (m + 1) = N % 2 ^ m + 2 ^ m * (N / 2 ^ m % 2) := by
  rw [Nat.pow_succ, Nat.mod_mul]
/-- a bit above all that is there, laid by 'or' into number j -/
theorem nb_or (w n A m b : Nat) (hw : 0 < w) (hA : A < 2 ^ m) (hb : b < 2) : nb w n (A + 2 ^ m * b) = (nb w n A).set (m / w) ((A / 2 ^ (w * (m / w)) % 2 ^ w) ||| b * 2 ^ (m % w)) := by
  apply List.ext_getElem?
  intro i
  by_cases hi : i < n
  · rw [nb_get w n _ i hi, List.getElem?_set, nb_length]
    have hd := Nat.div_add_mod m w
    have hr := Nat.mod_lt m hw
    by_cases e : m / w = i
    · rw [if_pos e, if_pos (by omega)]
      congr 1
      obtain ⟨r, hrr⟩ : ∃ r, m % w = r := ⟨_, rfl⟩
      have hm : m = w * i + r := by rw [← e, ← hrr]; exact hd.symm
      rw [e, hrr]
      have h1 : A / 2 ^ (w * i) < 2 ^ r := by
        rw [Nat.div_lt_iff_lt_mul (Nat.two_pow_pos _), ← Nat.pow_add, Nat.add_comm r, ← hm]; exact hA
      have h2 : (A + 2 ^ m * b) / 2 ^ (w * i) = A / 2 ^ (w * i) + 2 ^ r * b := by
        rw [hm, Nat.pow_add, Nat.mul_assoc, Nat.add_mul_div_left _ _ (Nat.two_pow_pos _)]
      have hrw : r < w := by omega
      have h3 : 2 ^ r * 2 ≤ 2 ^ w := by rw [← Nat.pow_succ]; exact Nat.pow_le_pow_right (by decide) hrw
      have h4 : 2 ^ r * b ≤ 2 ^ r := by
        rcases (show b = 0 ∨ b = 1 by omega) with rfl | rfl <;> simp
      rw [h2, Nat.mod_eq_of_lt (by omega), Nat.mod_eq_of_lt (by omega), Nat.mul_comm b, Nat.or_comm, ← Nat.two_pow_add_eq_or_of_lt h1, Nat.add_comm]
    · rw [if_neg e, nb_get w n _ i hi]
      congr 1
      by_cases hlt : m / w < i
      · have h1 : m < w * i := by
          have : w * (m / w + 1) ≤ w * i := Nat.mul_le_mul_left _ hlt
          rw [Nat.mul_succ] at this; omega
        have h2 : 2 ^ m * 2 ≤ 2 ^ (w * i) := by rw [← Nat.pow_succ]; exact Nat.pow_le_pow_right (by decide) h1
        have h4 : 2 ^ m * b ≤ 2 ^ m := by
          rcases (show b = 0 ∨ b = 1 by omega) with rfl | rfl <;> simp
        rw [Nat.div_eq_of_lt (by omega), Nat.div_eq_of_lt (by omega)]
      · have h1 : w * i + w ≤ m := by
          have : w * (i + 1) ≤ w * (m / w) := Nat.mul_le_mul_left _ (by omega)
          rw [Nat.mul_succ] at this; omega
        have h2 : 2 ^ m = 2 ^ (w * i) * (2 ^ w * 2 ^ (m - (w * i + w))) := by
          rw [← Nat.pow_add, ← Nat.pow_add]; congr 1; omega
        rw [h2, Nat.mul_assoc, Nat.add_mul_div_left _ _ (Nat.two_pow_pos _), Nat.mul_assoc, Nat.add_mul_mod_self_left]
  · rw [List.getElem?_eq_none (by rw [nb_length]; omega), List.getElem?_eq_none (by rw [List.length_set, nb_length]; omega)]
theorem nb_zero (w n : Nat) : nb w n 0 = List.replicate n 0 := by
  induction n with
  | zero => rfl
  | succ n ih => rw [nb, Nat.zero_mod, Nat.zero_div, ih]; rfl
end Go.Proofs.YtdlolhilmhlklaaDoor.bitm
