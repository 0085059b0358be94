/-
  Plain facts on the number-theoretic transform by layers: a product modulo X^n - r parts into products modulo X^s - z and X^s + z (r the square of z), a layer backwards undoes a layer. No program is named here. Conditions: as each theorem says. The transform as a whole: products of blocks go through each layer, there and back undo each other, the product of two polynomials modulo X^256 + 1 is the transform back of the products of their transforms. No program is named here. Conditions: as each theorem says. A layer of the transform, there and back, done in place pair by pair. No program is named here. Conditions: as each theorem says.
-/
import Derived.Test.YtlcafjdehcddcaaGreatDoorPuA
namespace Go.Proofs.YtlcafjdehcddcaaGreatDoor
namespace nttm
def Cg (a b : Int) : Prop := (a - b) % 8380417 = 0
theorem cg_refl (a : Int) : Cg a a := by unfold Cg; omega
theorem cg_symm {a b : Int} (h : Cg a b) : Cg b a := by unfold Cg at *; omega
theorem cg_trans {a b c : Int} (h : Cg a b) (k : Cg b c) : Cg a c := by unfold Cg at *; omega
theorem cg_add {a b c d : Int} (h : Cg a b) (k : Cg c d) : Cg (a + c) (b + d) := by unfold Cg at *; omega
theorem cg_sub {a b c d : Int} (h : Cg a b) (k : Cg c d) : Cg (a - c) (b - d) := by unfold Cg at *; omega
theorem cg_mul {a b c d : Int} (h : Cg a b) (k : Cg c d) : Cg (a * c) (b * d) := by
 unfold Cg at *
 have e : a * c - b * d = (a - b) * c + b * (c - d) := by rw [Int.sub_mul, Int.mul_sub]; omega
 rw [e, Int.add_emod, Int.mul_emod, h, Int.mul_emod b, k]
 simp
theorem cg_mod (a : Int) : Cg (a % 8380417) a := by unfold Cg; omega
theorem cg_eq {a b : Int} (h : Cg a b) : a % 8380417 = b % 8380417 := by unfold Cg at h; omega
theorem eq_cg {a b : Int} (h : a % 8380417 = b % 8380417) : Cg a b := by unfold Cg; omega
def sm (f : Nat → Int) : Nat → Int
 | 0 => 0
 | n + 1 => sm f n + f n
theorem sm_congr {f g : Nat → Int} (n : Nat) (h : ∀ i, i < n → f i = g i) : sm f n = sm g n := by
 induction n with
 | zero => rfl
 | succ n ih => rw [sm, sm, ih (fun i hi => h i (by omega)), h n (by omega)]
theorem sm_cg {f g : Nat → Int} (n : Nat) (h : ∀ i, i < n → Cg (f i) (g i)) : Cg (sm f n) (sm g n) := by
 induction n with
 | zero => exact cg_refl _
 | succ n ih => exact cg_add (ih (fun i hi => h i (by omega))) (h n (by omega))
theorem sm_add (f g : Nat → Int) (n : Nat) : sm (fun i => f i + g i) n = sm f n + sm g n := by
 induction n with
 | zero => rfl
 | succ n ih => simp only [sm, ih]; omega
theorem sm_mul (c : Int) (f : Nat → Int) (n : Nat) : sm (fun i => c * f i) n = c * sm f n := by
 induction n with
 | zero => simp [sm]
 | succ n ih => simp only [sm, ih, Int.mul_add]
theorem sm_split (f : Nat → Int) (n m : Nat) : sm f (n + m) = sm f n + sm (fun i => f (n + i)) m := by
 induction m with
 | zero => simp [sm]
 | succ m ih => rw [← Nat.add_assoc, sm, ih, sm]; omega
def sh (n : Nat) (r : Int) (b : Nat → Int) : Nat → Int := fun j => if j = 0 then r * b (n - 1) else b (j - 1)
def shi (n : Nat) (r : Int) (b : Nat → Int) : Nat → Nat → Int
 | 0 => b
 | i + 1 => sh n r (shi n r b i)
def mul (n : Nat) (r : Int) (a b : Nat → Int) : Nat → Int := fun j => sm (fun i => a i * shi n r b i j) n
def half (s : Nat) (z : Int) (f : Nat → Int) : Nat → Int := fun j => f j + z * f (j + s)
theorem sh_congr {n : Nat} (r : Int) {b c : Nat → Int} (h : ∀ j, j < n → b j = c j) (j : Nat) (hj : j < n) : sh n r b j = sh n r c j := by
 unfold sh
 split
 ·rw [h (n - 1) (by omega)]
 ·exact h _ (by omega)
theorem sh_cg {n : Nat} {r r' : Int} (hr : Cg r r') {b c : Nat → Int} (h : ∀ j, j < n → Cg (b j) (c j)) (j : Nat) (hj : j < n) : Cg (sh n r b j) (sh n r' c j) := by
 unfold sh
 split
 ·exact cg_mul hr (h (n - 1) (by omega))
 ·exact h _ (by omega)
theorem shi_cg {n : Nat} {r r' : Int} (hr : Cg r r') {b c : Nat → Int} (h : ∀ j, j < n → Cg (b j) (c j)) (i : Nat) : ∀ j, j < n → Cg (shi n r b i j) (shi n r' c i j) := by
 induction i with
 | zero => exact h
 | succ i ih => exact fun j hj => sh_cg hr ih j hj
theorem mul_cg {n : Nat} {r r' : Int} (hr : Cg r r') {a a' b b' : Nat → Int} (ha : ∀ j, j < n → Cg (a j) (a' j)) (hb : ∀ j, j < n → Cg (b j) (b' j)) (j : Nat) (hj : j < n) : Cg (mul n r a b j) (mul n r' a' b' j) :=
 sm_cg n fun i hi => cg_mul (ha i hi) (shi_cg hr hb i j hj)
theorem half_sh (s : Nat) (z : Int) (b : Nat → Int) (hs : 0 < s) (j : Nat) : half s z (sh (2 * s) (z * z) b) j = sh s z (half s z b) j := by
 unfold half sh
 by_cases h : j = 0
 ·subst h
  rw [if_pos rfl, if_pos rfl, if_neg (by omega), show 0 + s - 1 = s - 1 by omega]
  show z * z * b (2 * s - 1) + z * b (s - 1) = z * (b (s - 1) + z * b (s - 1 + s))
  rw [show s - 1 + s = 2 * s - 1 by omega, Int.mul_add, Int.mul_assoc]
  omega
 ·rw [if_neg h, if_neg h, if_neg (by omega), show j + s - 1 = j - 1 + s by omega]
theorem half_shi (s : Nat) (z : Int) (b : Nat → Int) (hs : 0 < s) (i : Nat) : ∀ j, j < s → half s z (shi (2 * s) (z * z) b i) j = shi s z (half s z b) i j := by
 induction i with
 | zero => intro j _; rfl
 | succ i ih =>
  intro j hj
  rw [shi, half_sh s z _ hs, shi]
  exact sh_congr z ih j hj
theorem shi_add (n : Nat) (r : Int) (b : Nat → Int) (i k : Nat) : shi n r b (i + k) = shi n r (shi n r b k) i := by
 induction i with
 | zero => rw [Nat.zero_add]; rfl
 | succ i ih => rw [Nat.succ_add, shi, ih]; rfl
theorem shi_low (n : Nat) (r : Int) (b : Nat → Int) (i : Nat) (hi : i ≤ n) : ∀ j, j < n → shi n r b i j = if j < i then r * b (j + n - i) else b (j - i) := by
 induction i with
 | zero => intro j _; rw [if_neg (by omega)]; rfl
 | succ i ih =>
  intro j hj
  rw [shi]
  unfold sh
  by_cases h : j = 0
  ·subst h
   rw [if_pos rfl, if_pos (by omega), ih (by omega) (n - 1) (by omega), if_neg (by omega), show n - 1 - i = 0 + n - (i + 1) by omega]
  ·rw [if_neg h, ih (by omega) (j - 1) (by omega)]
   by_cases h2 : j < i + 1
   ·rw [if_pos (by omega), if_pos h2, show j - 1 + n - i = j + n - (i + 1) by omega]
   ·rw [if_neg (by omega), if_neg h2, show j - 1 - i = j - (i + 1) by omega]
theorem shi_full (s : Nat) (z : Int) (b : Nat → Int) (j : Nat) (hj : j < s) : shi s z b s j = z * b j := by
 rw [shi_low s z b s (Nat.le_refl _) j hj, if_pos hj, Nat.add_sub_cancel]
theorem shi_scale (s : Nat) (z : Int) (b c : Nat → Int) (h : ∀ j, j < s → b j = z * c j) (i : Nat) : ∀ j, j < s → shi s z b i j = z * shi s z c i j := by
 induction i with
 | zero => exact h
 | succ i ih =>
  intro j hj
  rw [shi, shi]
  unfold sh
  split
  ·rw [ih (s - 1) (by omega)]
  ·exact ih _ (by omega)
theorem half_mul (s : Nat) (z : Int) (a b : Nat → Int) (hs : 0 < s) (j : Nat) (hj : j < s) : half s z (mul (2 * s) (z * z) a b) j = mul s z (half s z a) (half s z b) j := by
 have e1 : half s z (mul (2 * s) (z * z) a b) j = sm (fun i => a i * shi s z (half s z b) i j) (2 * s) := by
  show mul (2 * s) (z * z) a b j + z * mul (2 * s) (z * z) a b (j + s) = _
  unfold mul
  rw [← sm_mul, ← sm_add]
  refine sm_congr _ fun i _ => ?_
  rw [← half_shi s z b hs i j hj]
  show a i * shi (2 * s) (z * z) b i j + z * (a i * shi (2 * s) (z * z) b i (j + s)) = a i * (shi (2 * s) (z * z) b i j + z * shi (2 * s) (z * z) b i (j + s))
  rw [Int.mul_add, ← Int.mul_assoc, ← Int.mul_assoc, Int.mul_comm z (a i)]
 have e2 : (fun i => a (s + i) * shi s z (half s z b) (s + i) j) = fun i => a (s + i) * shi s z (half s z b) (s + i) j := rfl
 rw [e1, show 2 * s = s + s by omega, sm_split]
 unfold mul
 rw [← sm_add]
 refine sm_congr _ fun i _ => ?_
 rw [Nat.add_comm s i, shi_add, shi_scale s z _ (half s z b) (fun k hk => shi_full s z (half s z b) k hk) i j hj]
 show _ = (a i + z * a (i + s)) * _
 rw [Int.add_mul, Int.mul_comm z (a (i + s)), Int.mul_assoc]
variable (ζ : Nat → Int)
def ly (K s : Nat) (f : Nat → Int) : Nat → Int := fun j => if j % (2 * s) < s then f j + ζ (K + j / (2 * s)) * f (j + s) else f (j - s) - ζ (K + j / (2 * s)) * f j
def bk (K s : Nat) (f : Nat → Int) : Nat → Int := fun j => if j % (2 * s) < s then f j + f (j + s) else - ζ (2 * K - 1 - j / (2 * s)) * (f (j - s) - f j)
theorem place {s j : Nat} (hs : 0 < s) : (j % (2 * s) < s → (j + s) % (2 * s) = j % (2 * s) + s ∧ (j + s) / (2 * s) = j / (2 * s)) ∧ (¬ j % (2 * s) < s → s ≤ j ∧ (j - s) % (2 * s) = j % (2 * s) - s ∧ (j - s) / (2 * s) = j / (2 * s)) := by
 have h1 := Nat.div_add_mod j (2 * s)
 have h2 := Nat.mod_lt j (show 0 < 2 * s by omega)
 constructor
 ·intro h
  have e : j + s = 2 * s * (j / (2 * s)) + (j % (2 * s) + s) := by omega
  constructor
  ·rw [e, Nat.mul_add_mod, Nat.mod_eq_of_lt (by omega)]
  ·rw [e, Nat.mul_add_div (by omega), Nat.div_eq_of_lt (by omega : j % (2 * s) + s < 2 * s)]; omega
 ·intro h
  have hj : s ≤ j := by have := Nat.mod_le j (2 * s); omega
  have e : j - s = 2 * s * (j / (2 * s)) + (j % (2 * s) - s) := by omega
  refine ⟨hj, ?_, ?_⟩
  ·rw [e, Nat.mul_add_mod, Nat.mod_eq_of_lt (by omega)]
  ·rw [e, Nat.mul_add_div (by omega), Nat.div_eq_of_lt (by omega : j % (2 * s) - s < 2 * s)]; omega
theorem bk_ly (K s : Nat) (hs : 0 < s) (hz : ∀ t, t < K → Cg (ζ (K + t) * ζ (2 * K - 1 - t)) (-1)) (f : Nat → Int) (j : Nat) (hj : j < 2 * s * K) : Cg (bk ζ K s (ly ζ K s f) j) (2 * f j) := by
 have ht : j / (2 * s) < K := Nat.div_lt_of_lt_mul hj
 obtain ⟨p1, p2⟩ := place (j := j) hs
 unfold bk
 by_cases h : j % (2 * s) < s
 ·obtain ⟨q1, q2⟩ := p1 h
  rw [if_pos h]
  unfold ly
  rw [if_pos h, if_neg (by omega), q2, Nat.add_sub_cancel]
  exact eq_cg (by congr 1; omega)
 ·obtain ⟨q0, q1, q2⟩ := p2 h
  have hlt := Nat.mod_lt j (show 0 < 2 * s by omega)
  rw [if_neg h]
  unfold ly
  rw [if_neg h, if_pos (by omega), q2, Nat.sub_add_cancel q0]
  have h3 := hz _ ht
  have e : - ζ (2 * K - 1 - j / (2 * s)) * (f (j - s) + ζ (K + j / (2 * s)) * f j - (f (j - s) - ζ (K + j / (2 * s)) * f j)) = (-2 * f j) * (ζ (K + j / (2 * s)) * ζ (2 * K - 1 - j / (2 * s))) := by grind
  rw [e, show 2 * f j = (-2 * f j) * (-1) by omega]
  exact cg_mul (cg_refl _) h3
theorem ly_bk (K s : Nat) (hs : 0 < s) (hz : ∀ t, t < K → Cg (ζ (K + t) * ζ (2 * K - 1 - t)) (-1)) (f : Nat → Int) (j : Nat) (hj : j < 2 * s * K) : Cg (ly ζ K s (bk ζ K s f) j) (2 * f j) := by
 have ht : j / (2 * s) < K := Nat.div_lt_of_lt_mul hj
 obtain ⟨p1, p2⟩ := place (j := j) hs
 unfold ly
 by_cases h : j % (2 * s) < s
 ·obtain ⟨q1, q2⟩ := p1 h
  rw [if_pos h]
  unfold bk
  rw [if_pos h, if_neg (by omega), q2, Nat.add_sub_cancel]
  have h3 := hz _ ht
  have e : f j + f (j + s) + ζ (K + j / (2 * s)) * (-ζ (2 * K - 1 - j / (2 * s)) * (f j - f (j + s))) = f j + f (j + s) + (-(f j - f (j + s))) * (ζ (K + j / (2 * s)) * ζ (2 * K - 1 - j / (2 * s))) := by grind
  rw [e, show 2 * f j = f j + f (j + s) + (-(f j - f (j + s))) * (-1) by omega]
  exact cg_add (cg_refl _) (cg_mul (cg_refl _) h3)
 ·obtain ⟨q0, q1, q2⟩ := p2 h
  have hlt := Nat.mod_lt j (show 0 < 2 * s by omega)
  rw [if_neg h]
  unfold bk
  rw [if_neg h, if_pos (by omega), Nat.sub_add_cancel q0]
  have h3 := hz _ ht
  have e : f (j - s) + f j - ζ (K + j / (2 * s)) * (-ζ (2 * K - 1 - j / (2 * s)) * (f (j - s) - f j)) = f (j - s) + f j + (f (j - s) - f j) * (ζ (K + j / (2 * s)) * ζ (2 * K - 1 - j / (2 * s))) := by grind
  rw [e, show 2 * f j = f (j - s) + f j + (f (j - s) - f j) * (-1) by omega]
  exact cg_add (cg_refl _) (cg_mul (cg_refl _) h3)
end nttm
namespace nttp
open nttm
variable (ζ : Nat → Int)
theorem up {K s j : Nat} (hs : 0 < s) (hj : j < 2 * s * K) (hr : j % (2 * s) < s) : j + s < 2 * s * K := by
 have h := (Nat.div_lt_iff_lt_mul (show 0 < 2 * s by omega)).1 (show (j + s) / (2 * s) < K by rw [((place (j := j) hs).1 hr).2]; exact Nat.div_lt_of_lt_mul hj)
 rw [Nat.mul_comm] at h; exact h
theorem ly_cg (K s : Nat) (hs : 0 < s) {f g : Nat → Int} (h : ∀ j, j < 2 * s * K → Cg (f j) (g j)) (j : Nat) (hj : j < 2 * s * K) : Cg (ly ζ K s f j) (ly ζ K s g j) := by
 unfold ly
 split
 ·rename_i hr
  exact cg_add (h j hj) (cg_mul (cg_refl _) (h (j + s) (up hs hj hr)))
 ·exact cg_sub (h _ (by omega)) (cg_mul (cg_refl _) (h j hj))
theorem bk_cg (K s : Nat) (hs : 0 < s) {f g : Nat → Int} (h : ∀ j, j < 2 * s * K → Cg (f j) (g j)) (j : Nat) (hj : j < 2 * s * K) : Cg (bk ζ K s f j) (bk ζ K s g j) := by
 unfold bk
 split
 ·rename_i hr
  exact cg_add (h j hj) (h (j + s) (up hs hj hr))
 ·exact cg_mul (cg_refl _) (cg_sub (h _ (by omega)) (h j hj))
theorem ly_add (K s : Nat) (f g : Nat → Int) (j : Nat) : ly ζ K s (fun i => f i + g i) j = ly ζ K s f j + ly ζ K s g j := by
 unfold ly
 split
 ·simp only [Int.mul_add]; omega
 ·simp only [Int.mul_add]; omega
theorem ly_scale (K s : Nat) (c : Int) (f : Nat → Int) (j : Nat) : ly ζ K s (fun i => c * f i) j = c * ly ζ K s f j := by
 unfold ly
 split
 ·rw [Int.mul_add, Int.mul_left_comm]
 ·rw [Int.mul_sub, Int.mul_left_comm]
theorem bk_scale (K s : Nat) (c : Int) (f : Nat → Int) (j : Nat) : bk ζ K s (fun i => c * f i) j = c * bk ζ K s f j := by
 unfold bk
 split
 ·rw [Int.mul_add]
 ·rw [← Int.mul_sub, Int.mul_left_comm]
def pb (ρ : Nat → Int) (K n : Nat) (f g : Nat → Int) : Nat → Int := fun j => mul n (ρ (K + j / n)) (fun i => f (n * (j / n) + i)) (fun i => g (n * (j / n) + i)) (j % n)
theorem ly_pb (ρ : Nat → Int) (K s : Nat) (hs : 0 < s) (h0 : ∀ t, t < K → Cg (ρ (K + t)) (ζ (K + t) * ζ (K + t))) (h1 : ∀ t, t < K → Cg (ρ (2 * K + 2 * t)) (ζ (K + t))) (h2 : ∀ t, t < K → Cg (ρ (2 * K + (2 * t + 1))) (- ζ (K + t))) (f g : Nat → Int) (j : Nat) (hj : j < 2 * s * K) :
 Cg (ly ζ K s (pb ρ K (2 * s) f g) j) (pb ρ (2 * K) s (ly ζ K s f) (ly ζ K s g) j) := by
 obtain ⟨t, ht⟩ : ∃ t, j / (2 * s) = t := ⟨_, rfl⟩
 obtain ⟨r, hr⟩ : ∃ r, j % (2 * s) = r := ⟨_, rfl⟩
 have htK : t < K := by rw [← ht]; exact Nat.div_lt_of_lt_mul hj
 have hrs : r < 2 * s := by rw [← hr]; exact Nat.mod_lt _ (by omega)
 have hjd : j = 2 * s * t + r := by rw [← ht, ← hr]; exact (Nat.div_add_mod _ _).symm
 obtain ⟨p1, p2⟩ := place (j := j) hs
 rw [ht, hr] at p1 p2
 have lo : ∀ (u : Nat → Int) (i : Nat), i < s → ly ζ K s u (2 * s * t + i) = half s (ζ (K + t)) (fun i => u (2 * s * t + i)) i := by
  intro u i hi
  have e1 : (2 * s * t + i) / (2 * s) = t := by rw [Nat.mul_add_div (by omega), Nat.div_eq_of_lt (by omega)]; omega
  have e2 : (2 * s * t + i) % (2 * s) = i := by rw [Nat.mul_add_mod, Nat.mod_eq_of_lt (by omega)]
  unfold ly half
  rw [e1, e2, if_pos hi, Nat.add_assoc]
 have hi' : ∀ (u : Nat → Int) (i : Nat), i < s → ly ζ K s u (2 * s * t + (s + i)) = half s (- ζ (K + t)) (fun i => u (2 * s * t + i)) i := by
  intro u i hi
  have e1 : (2 * s * t + (s + i)) / (2 * s) = t := by rw [Nat.mul_add_div (by omega), Nat.div_eq_of_lt (by omega)]; omega
  have e2 : (2 * s * t + (s + i)) % (2 * s) = s + i := by rw [Nat.mul_add_mod, Nat.mod_eq_of_lt (by omega)]
  unfold ly half
  rw [e1, e2, if_neg (by omega), show 2 * s * t + (s + i) - s = 2 * s * t + i by omega, Nat.add_comm s i, Int.neg_mul]
  show u (2 * s * t + i) - ζ (K + t) * u (2 * s * t + (i + s)) = u (2 * s * t + i) + -(ζ (K + t) * u (2 * s * t + (i + s)))
  omega
 by_cases hc : r < s
 ·obtain ⟨q1, q2⟩ := p1 hc
  have eL : ly ζ K s (pb ρ K (2 * s) f g) j = half s (ζ (K + t)) (mul (2 * s) (ρ (K + t)) (fun i => f (2 * s * t + i)) (fun i => g (2 * s * t + i))) r := by
   unfold ly pb half
   rw [hr, if_pos hc, ht, q1, q2]
  have eR : pb ρ (2 * K) s (ly ζ K s f) (ly ζ K s g) j = mul s (ρ (2 * K + 2 * t)) (fun i => ly ζ K s f (2 * s * t + i)) (fun i => ly ζ K s g (2 * s * t + i)) r := by
   have e1 : j / s = 2 * t := by rw [hjd, show 2 * s * t + r = s * (2 * t) + r by rw [← Nat.mul_assoc, Nat.mul_comm s 2], Nat.mul_add_div hs, Nat.div_eq_of_lt hc]; rfl
   have e2 : j % s = r := by rw [hjd, show 2 * s * t + r = s * (2 * t) + r by rw [← Nat.mul_assoc, Nat.mul_comm s 2], Nat.mul_add_mod, Nat.mod_eq_of_lt hc]
   unfold pb
   rw [e1, e2, show s * (2 * t) = 2 * s * t by rw [← Nat.mul_assoc, Nat.mul_comm s 2]]
  rw [eL, eR]
  refine cg_trans (b := half s (ζ (K + t)) (mul (2 * s) (ζ (K + t) * ζ (K + t)) (fun i => f (2 * s * t + i)) (fun i => g (2 * s * t + i))) r) ?_ ?_
  ·unfold half
   exact cg_add (mul_cg (h0 t htK) (fun _ _ => cg_refl _) (fun _ _ => cg_refl _) r (by omega)) (cg_mul (cg_refl _) (mul_cg (h0 t htK) (fun _ _ => cg_refl _) (fun _ _ => cg_refl _) (r + s) (by omega)))
  ·rw [half_mul s _ _ _ hs r hc]
   exact mul_cg (cg_symm (h1 t htK)) (fun i hi => by rw [lo f i hi]; exact cg_refl _) (fun i hi => by rw [lo g i hi]; exact cg_refl _) r hc
 ·obtain ⟨q0, q1, q2⟩ := p2 hc
  obtain ⟨r', hr'⟩ : ∃ r', r - s = r' := ⟨_, rfl⟩
  have hrr : r = s + r' := by omega
  have hr's : r' < s := by omega
  have eL : ly ζ K s (pb ρ K (2 * s) f g) j = half s (- ζ (K + t)) (mul (2 * s) (ρ (K + t)) (fun i => f (2 * s * t + i)) (fun i => g (2 * s * t + i))) r' := by
   unfold ly pb half
   rw [hr, if_neg hc, ht, q1, q2, hr', show r' + s = r by omega, Int.neg_mul]
   omega
  have e0 : 2 * s * t + r = s * (2 * t + 1) + r' := by rw [Nat.mul_add, ← Nat.mul_assoc, Nat.mul_comm s 2]; omega
  have eR : pb ρ (2 * K) s (ly ζ K s f) (ly ζ K s g) j = mul s (ρ (2 * K + (2 * t + 1))) (fun i => ly ζ K s f (2 * s * t + (s + i))) (fun i => ly ζ K s g (2 * s * t + (s + i))) r' := by
   have e1 : j / s = 2 * t + 1 := by rw [hjd, e0, Nat.mul_add_div hs, Nat.div_eq_of_lt hr's]
   have e2 : j % s = r' := by rw [hjd, e0, Nat.mul_add_mod, Nat.mod_eq_of_lt hr's]
   have e3 : ∀ i, s * (2 * t + 1) + i = 2 * s * t + (s + i) := fun i => by rw [Nat.mul_add, ← Nat.mul_assoc, Nat.mul_comm s 2]; omega
   unfold pb
   rw [e1, e2]
   simp only [e3]
  rw [eL, eR]
  refine cg_trans (b := half s (- ζ (K + t)) (mul (2 * s) (- ζ (K + t) * - ζ (K + t)) (fun i => f (2 * s * t + i)) (fun i => g (2 * s * t + i))) r') ?_ ?_
  ·have h0' : Cg (ρ (K + t)) (- ζ (K + t) * - ζ (K + t)) := by rw [Int.neg_mul_neg]; exact h0 t htK
   unfold half
   exact cg_add (mul_cg h0' (fun _ _ => cg_refl _) (fun _ _ => cg_refl _) r' (by omega)) (cg_mul (cg_refl _) (mul_cg h0' (fun _ _ => cg_refl _) (fun _ _ => cg_refl _) (r' + s) (by omega)))
  ·rw [half_mul s _ _ _ hs r' hr's]
   exact mul_cg (cg_symm (h2 t htK)) (fun i hi => by rw [hi' f i hi]; exact cg_refl _) (fun i hi => by rw [hi' g i hi]; exact cg_refl _) r' hr's
def there : Nat → (Nat → Int) → Nat → Int
 | 0, f => f
 | m + 1, f => ly ζ (2 ^ m) (2 ^ (7 - m)) (there m f)
def back : Nat → (Nat → Int) → Nat → Int
 | 0, f => f
 | m + 1, f => bk ζ (2 ^ (7 - m)) (2 ^ m) (back m f)
theorem size_m (m : Nat) (h : m ≤ 7) : 2 * 2 ^ (7 - m) * 2 ^ m = 256 ∧ 2 * 2 ^ m * 2 ^ (7 - m) = 256 := by
 have e : 2 ^ (7 - m) * 2 ^ m = 128 := by rw [← Nat.pow_add, show 7 - m + m = 7 by omega]
 constructor
 ·rw [Nat.mul_assoc, e]
 ·rw [Nat.mul_assoc, Nat.mul_comm (2 ^ m), e]
theorem there_cg (m : Nat) (hm : m ≤ 8) {f g : Nat → Int} (h : ∀ j, j < 256 → Cg (f j) (g j)) : ∀ j, j < 256 → Cg (there ζ m f j) (there ζ m g j) := by
 induction m with
 | zero => exact h
 | succ m ih =>
  intro j hj
  have e := (size_m m (by omega)).1
  exact ly_cg ζ (2 ^ m) (2 ^ (7 - m)) (Nat.two_pow_pos _) (fun i hi => ih (by omega) i (by omega)) j (by omega)
theorem back_cg (m : Nat) (hm : m ≤ 8) {f g : Nat → Int} (h : ∀ j, j < 256 → Cg (f j) (g j)) : ∀ j, j < 256 → Cg (back ζ m f j) (back ζ m g j) := by
 induction m with
 | zero => exact h
 | succ m ih =>
  intro j hj
  have e := (size_m m (by omega)).2
  exact bk_cg ζ (2 ^ (7 - m)) (2 ^ m) (Nat.two_pow_pos _) (fun i hi => ih (by omega) i (by omega)) j (by omega)
theorem there_add (m : Nat) (f g : Nat → Int) : there ζ m (fun i => f i + g i) = fun j => there ζ m f j + there ζ m g j := by
 induction m with
 | zero => rfl
 | succ m ih => funext j; show ly ζ _ _ (there ζ m fun i => f i + g i) j = _; rw [ih]; exact ly_add ζ _ _ _ _ j
theorem there_scale (m : Nat) (c : Int) (f : Nat → Int) : there ζ m (fun i => c * f i) = fun j => c * there ζ m f j := by
 induction m with
 | zero => rfl
 | succ m ih => funext j; show ly ζ _ _ (there ζ m fun i => c * f i) j = _; rw [ih]; exact ly_scale ζ _ _ _ _ j
theorem back_scale (m : Nat) (c : Int) (f : Nat → Int) : back ζ m (fun i => c * f i) = fun j => c * back ζ m f j := by
 induction m with
 | zero => rfl
 | succ m ih => funext j; show bk ζ _ _ (back ζ m fun i => c * f i) j = _; rw [ih]; exact bk_scale ζ _ _ _ _ j
def Inv : Prop := ∀ m, m ≤ 7 → ∀ t, t < 2 ^ m → Cg (ζ (2 ^ m + t) * ζ (2 * 2 ^ m - 1 - t)) (-1)
theorem back_there (hz : Inv ζ) (f : Nat → Int) (m : Nat) (hm : m ≤ 8) : ∀ j, j < 256 → Cg (back ζ m (there ζ 8 f) j) (2 ^ m * there ζ (8 - m) f j) := by
 induction m with
 | zero => intro j _; rw [show (2 : Int) ^ 0 = 1 from rfl, Int.one_mul]; exact cg_refl _
 | succ m ih =>
  intro j hj
  obtain ⟨e1, e2⟩ := size_m m (by omega)
  have h1 := bk_cg ζ (2 ^ (7 - m)) (2 ^ m) (Nat.two_pow_pos _) (fun i hi => ih (by omega) i (by omega)) j (by omega)
  have h2 : bk ζ (2 ^ (7 - m)) (2 ^ m) (fun i => 2 ^ m * there ζ (8 - m) f i) j = 2 ^ m * bk ζ (2 ^ (7 - m)) (2 ^ m) (there ζ (8 - m) f) j := bk_scale ζ _ _ _ _ j
  have h3 : there ζ (8 - m) f = ly ζ (2 ^ (7 - m)) (2 ^ m) (there ζ (7 - m) f) := by
   rw [show 8 - m = (7 - m) + 1 by omega, there, show 7 - (7 - m) = m by omega]
  have h4 := bk_ly ζ (2 ^ (7 - m)) (2 ^ m) (Nat.two_pow_pos _) (fun t ht => hz (7 - m) (by omega) t ht) (there ζ (7 - m) f) j (by omega)
  rw [show 8 - (m + 1) = 7 - m by omega, Int.pow_succ, Int.mul_assoc]
  refine cg_trans h1 ?_
  rw [h2, h3]
  exact cg_mul (cg_refl _) h4
theorem there_back (hz : Inv ζ) (f : Nat → Int) (m : Nat) (hm : m ≤ 8) : ∀ j, j < 256 → Cg (there ζ m (back ζ 8 f) j) (2 ^ m * back ζ (8 - m) f j) := by
 induction m with
 | zero => intro j _; rw [show (2 : Int) ^ 0 = 1 from rfl, Int.one_mul]; exact cg_refl _
 | succ m ih =>
  intro j hj
  obtain ⟨e1, e2⟩ := size_m m (by omega)
  have h1 := ly_cg ζ (2 ^ m) (2 ^ (7 - m)) (Nat.two_pow_pos _) (fun i hi => ih (by omega) i (by omega)) j (by omega)
  have h2 : ly ζ (2 ^ m) (2 ^ (7 - m)) (fun i => 2 ^ m * back ζ (8 - m) f i) j = 2 ^ m * ly ζ (2 ^ m) (2 ^ (7 - m)) (back ζ (8 - m) f) j := ly_scale ζ _ _ _ _ j
  have h3 : back ζ (8 - m) f = bk ζ (2 ^ m) (2 ^ (7 - m)) (back ζ (7 - m) f) := by
   rw [show 8 - m = (7 - m) + 1 by omega, back, show 7 - (7 - m) = m by omega]
  have h4 := ly_bk ζ (2 ^ m) (2 ^ (7 - m)) (Nat.two_pow_pos _) (fun t ht => hz m (by omega) t ht) (back ζ (7 - m) f) j (by omega)
  rw [show 8 - (m + 1) = 7 - m by omega, Int.pow_succ, Int.mul_assoc]
  refine cg_trans h1 ?_
  rw [h2, h3]
  exact cg_mul (cg_refl _) h4
structure Sq (ρ : Nat → Int) : Prop where
 top : Cg (ρ 1) (-1)
 sq : ∀ k, 0 < k → k < 256 → Cg (ρ k) (ζ k * ζ k)
 lo : ∀ k, 0 < k → k < 256 → Cg (ρ (2 * k)) (ζ k)
 hi : ∀ k, 0 < k → k < 256 → Cg (ρ (2 * k + 1)) (- ζ k)
theorem pb_cg (ρ : Nat → Int) (K n : Nat) (hn : 0 < n) {f f' g g' : Nat → Int} (hf : ∀ j, j < n * K → Cg (f j) (f' j)) (hg : ∀ j, j < n * K → Cg (g j) (g' j)) (j : Nat) (hj : j < n * K) : Cg (pb ρ K n f g j) (pb ρ K n f' g' j) := by
 have ht : j / n < K := Nat.div_lt_of_lt_mul hj
 have hb : ∀ i, i < n → n * (j / n) + i < n * K := fun i hi => by
  have h1 : n * (j / n) + n ≤ n * K := by rw [← Nat.mul_succ]; exact Nat.mul_le_mul_left _ ht
  omega
 exact mul_cg (cg_refl _) (fun i hi => hf _ (hb i hi)) (fun i hi => hg _ (hb i hi)) _ (Nat.mod_lt _ hn)
theorem there_pb (ρ : Nat → Int) (hq : Sq ζ ρ) (f g : Nat → Int) (m : Nat) (hm : m ≤ 8) : ∀ j, j < 256 → Cg (there ζ m (pb ρ 1 256 f g) j) (pb ρ (2 ^ m) (2 ^ (8 - m)) (there ζ m f) (there ζ m g) j) := by
 induction m with
 | zero => intro j _; exact cg_refl _
 | succ m ih =>
  intro j hj
  obtain ⟨e1, e2⟩ := size_m m (by omega)
  have hK : 2 ^ m ≤ 128 := Nat.le_trans (Nat.pow_le_pow_right (by decide) (by omega : m ≤ 7)) (by decide)
  have hK0 := Nat.two_pow_pos m
  have h1 := ly_cg ζ (2 ^ m) (2 ^ (7 - m)) (Nat.two_pow_pos _) (fun i hi => ih (by omega) i (by omega)) j (by omega)
  have e3 : 2 ^ (8 - m) = 2 * 2 ^ (7 - m) := by rw [show 8 - m = (7 - m) + 1 by omega, Nat.pow_succ, Nat.mul_comm]
  rw [e3] at h1
  have h2 := ly_pb ζ ρ (2 ^ m) (2 ^ (7 - m)) (Nat.two_pow_pos _) (fun t ht => hq.sq _ (by omega) (by omega)) (fun t ht => by rw [← Nat.mul_add]; exact hq.lo _ (by omega) (by omega)) (fun t ht => by rw [← Nat.add_assoc, ← Nat.mul_add]; exact hq.hi _ (by omega) (by omega)) (there ζ m f) (there ζ m g) j (by omega)
  have h3 := cg_trans h1 h2
  rw [show 8 - (m + 1) = 7 - m by omega, Nat.pow_succ, Nat.mul_comm (2 ^ m) 2]
  exact h3
theorem product (ρ : Nat → Int) (hz : Inv ζ) (hq : Sq ζ ρ) (f g : Nat → Int) (j : Nat) (hj : j < 256) : Cg (8347681 * back ζ 8 (fun i => there ζ 8 f i * there ζ 8 g i) j) (mul 256 (-1) f g j) := by
 have h1 : ∀ i, i < 256 → Cg (there ζ 8 f i * there ζ 8 g i) (there ζ 8 (pb ρ 1 256 f g) i) := fun i hi => by
  refine cg_symm (cg_trans (there_pb ζ ρ hq f g 8 (by decide) i hi) ?_)
  show Cg (pb ρ 256 1 (there ζ 8 f) (there ζ 8 g) i) _
  unfold pb mul
  rw [Nat.div_one, Nat.mod_one, Nat.one_mul]
  simp only [sm, shi, Nat.add_zero, Int.zero_add]
  exact cg_refl _
 have h2 := back_cg ζ 8 (by decide) h1 j hj
 have h3 := back_there ζ hz (pb ρ 1 256 f g) 8 (by decide) j hj
 have h4 : Cg (8347681 * back ζ 8 (fun i => there ζ 8 f i * there ζ 8 g i) j) (8347681 * (2 ^ 8 * pb ρ 1 256 f g j)) := cg_mul (cg_refl _) (cg_trans h2 h3)
 refine cg_trans h4 (cg_trans (b := pb ρ 1 256 f g j) ?_ ?_)
 ·rw [← Int.mul_assoc, show pb ρ 1 256 f g j = 1 * pb ρ 1 256 f g j by omega, ← Int.mul_assoc]
  exact cg_mul (by unfold Cg; decide) (cg_refl _)
 ·unfold pb
  rw [Nat.div_eq_of_lt hj, Nat.mod_eq_of_lt hj]
  simp only [Nat.mul_zero, Nat.zero_add, Nat.add_zero]
  exact mul_cg hq.top (fun _ _ => cg_refl _) (fun _ _ => cg_refl _) j hj
theorem undo (hz : Inv ζ) (f : Nat → Int) (j : Nat) (hj : j < 256) : Cg (8347681 * back ζ 8 (there ζ 8 f) j) (f j) := by
 have h := back_there ζ hz f 8 (by decide) j hj
 refine cg_trans (cg_mul (cg_refl _) h) ?_
 show Cg (8347681 * (2 ^ 8 * f j)) (f j)
 rw [← Int.mul_assoc, show Cg (8347681 * 2 ^ 8 * f j) (f j) = Cg (8347681 * 2 ^ 8 * f j) (1 * f j) by rw [Int.one_mul]]
 exact cg_mul (by unfold Cg; decide) (cg_refl _)
theorem redo (hz : Inv ζ) (f : Nat → Int) (j : Nat) (hj : j < 256) : Cg (there ζ 8 (fun i => 8347681 * back ζ 8 f i) j) (f j) := by
 rw [there_scale]
 have h := there_back ζ hz f 8 (by decide) j hj
 refine cg_trans (cg_mul (cg_refl 8347681) h) ?_
 show Cg (8347681 * (2 ^ 8 * f j)) (f j)
 rw [← Int.mul_assoc, show Cg (8347681 * 2 ^ 8 * f j) (f j) = Cg (8347681 * 2 ^ 8 * f j) (1 * f j) by rw [Int.one_mul]]
 exact cg_mul (by unfold Cg; decide) (cg_refl _)
end nttp
namespace nttl
open nttm nttp polys
variable (ζ : Nat → Int)
def pair (s j : Nat) : Nat := j / (2 * s) * s + j % s
theorem pair_lo {s t r : Nat} (hr : r < s) : pair s (2 * s * t + r) = t * s + r ∧ (2 * s * t + r) / (2 * s) = t ∧ (2 * s * t + r) % (2 * s) = r := by
 have h1 : (2 * s * t + r) / (2 * s) = t := by rw [Nat.mul_add_div (by omega), Nat.div_eq_of_lt (by omega), Nat.add_zero]
 have h2 : (2 * s * t + r) % (2 * s) = r := by rw [Nat.mul_add_mod, Nat.mod_eq_of_lt (by omega)]
 have h3 : (2 * s * t + r) % s = r := by rw [show 2 * s * t + r = s * (2 * t) + r by rw [← Nat.mul_assoc, Nat.mul_comm s 2], Nat.mul_add_mod, Nat.mod_eq_of_lt hr]
 exact ⟨by unfold pair; rw [h1, h3], h1, h2⟩
theorem pair_hi {s t r : Nat} (hr : r < s) : pair s (2 * s * t + r + s) = t * s + r ∧ (2 * s * t + r + s) / (2 * s) = t ∧ (2 * s * t + r + s) % (2 * s) = r + s := by
 have h1 : (2 * s * t + r + s) / (2 * s) = t := by rw [Nat.add_assoc, Nat.mul_add_div (by omega), Nat.div_eq_of_lt (by omega), Nat.add_zero]
 have h2 : (2 * s * t + r + s) % (2 * s) = r + s := by rw [Nat.add_assoc, Nat.mul_add_mod, Nat.mod_eq_of_lt (by omega)]
 have h3 : (2 * s * t + r + s) % s = r := by rw [show 2 * s * t + r + s = s * (2 * t + 1) + r by rw [Nat.mul_add, ← Nat.mul_assoc, Nat.mul_comm s 2]; omega, Nat.mul_add_mod, Nat.mod_eq_of_lt hr]
 exact ⟨by unfold pair; rw [h1, h3], h1, h2⟩
theorem pair_is {s j : Nat} (hs : 0 < s) : ∃ t r, r < s ∧ pair s j = t * s + r ∧ (j = 2 * s * t + r ∨ j = 2 * s * t + r + s) := by
 have h1 := Nat.div_add_mod j (2 * s)
 have h2 := Nat.mod_lt j (show 0 < 2 * s by omega)
 by_cases h : j % (2 * s) < s
 ·refine ⟨j / (2 * s), j % (2 * s), h, ?_, Or.inl h1.symm⟩
  have := (pair_lo (t := j / (2 * s)) h).1
  rwa [h1] at this
 ·have e : j = 2 * s * (j / (2 * s)) + (j % (2 * s) - s) + s := by omega
  refine ⟨j / (2 * s), j % (2 * s) - s, by omega, ?_, Or.inr e⟩
  have := (pair_hi (t := j / (2 * s)) (show j % (2 * s) - s < s by omega)).1
  rwa [← e] at this
theorem pair_inj {s t t' r r' : Nat} (hr : r < s) (hr' : r' < s) (h : t * s + r = t' * s + r') : t = t' ∧ r = r' := by
 have h1 : (t * s + r) / s = t := by rw [Nat.mul_comm, Nat.mul_add_div (by omega), Nat.div_eq_of_lt hr, Nat.add_zero]
 have h2 : (t' * s + r') / s = t' := by rw [Nat.mul_comm, Nat.mul_add_div (by omega), Nat.div_eq_of_lt hr', Nat.add_zero]
 have e : t = t' := by rw [← h1, ← h2, h]
 subst e
 exact ⟨rfl, by omega⟩
def dn (L : (Nat → Int) → Nat → Int) (s : Nat) (f : Nat → Int) (m : Nat) : Nat → Int := fun j => if pair s j < m then L f j % 8380417 else f j
theorem dn_zero (L : (Nat → Int) → Nat → Int) (s : Nat) (f : Nat → Int) : dn L s f 0 = f := by funext j; unfold dn; rw [if_neg (by omega)]
theorem dn_all (L : (Nat → Int) → Nat → Int) (K s : Nat) (hs : 0 < s) (f : Nat → Int) (j : Nat) (hj : j < 2 * s * K) : dn L s f (K * s) j = L f j % 8380417 := by
 unfold dn
 rw [if_pos]
 obtain ⟨t, r, hr, hp, hjj⟩ := pair_is (j := j) hs
 have ht : t < K := by
  have h1 : 2 * s * t < 2 * s * K := by rcases hjj with h | h <;> omega
  exact Nat.lt_of_mul_lt_mul_left h1
 rw [hp]
 have : (t + 1) * s ≤ K * s := Nat.mul_le_mul_right _ ht
 rw [Nat.succ_mul] at this
 omega
theorem dn_lo (L : (Nat → Int) → Nat → Int) {s t r : Nat} (hr : r < s) (f : Nat → Int) : dn L s f (t * s + r) (2 * s * t + r) = f (2 * s * t + r) := by unfold dn; rw [(pair_lo hr).1, if_neg (by omega)]
theorem dn_hi (L : (Nat → Int) → Nat → Int) {s t r : Nat} (hr : r < s) (f : Nat → Int) : dn L s f (t * s + r) (2 * s * t + r + s) = f (2 * s * t + r + s) := by unfold dn; rw [(pair_hi hr).1, if_neg (by omega)]
theorem same (p q : Prop) [Decidable p] [Decidable q] (a b : Int) (h : p ↔ q) : (if p then a else b) = if q then a else b := by
 by_cases hp : p
 ·rw [if_pos hp, if_pos (h.1 hp)]
 ·rw [if_neg hp, if_neg (fun x => hp (h.2 x))]
theorem dn_step (L : (Nat → Int) → Nat → Int) {s t r : Nat} (hr : r < s) (f : Nat → Int) (x y : Int) (hx : x = L f (2 * s * t + r) % 8380417) (hy : y = L f (2 * s * t + r + s) % 8380417) :
 upd (upd (dn L s f (t * s + r)) (2 * s * t + r + s) y) (2 * s * t + r) x = dn L s f (t * s + r + 1) ∧ upd (upd (dn L s f (t * s + r)) (2 * s * t + r) x) (2 * s * t + r + s) y = dn L s f (t * s + r + 1) := by
 have hs : 0 < s := by omega
 have key : ∀ j, j ≠ 2 * s * t + r → j ≠ 2 * s * t + r + s → (pair s j < t * s + r ↔ pair s j < t * s + r + 1) := by
  intro j h1 h2
  obtain ⟨t', r', hr', hp, hjj⟩ := pair_is (j := j) hs
  constructor
  ·intro h; omega
  ·intro h
   by_cases e : pair s j = t * s + r
   ·obtain ⟨rfl, rfl⟩ := pair_inj hr' hr (hp.symm.trans e)
    rcases hjj with h | h
    ·exact absurd h h1
    ·exact absurd h h2
   ·omega
 subst hx hy
 constructor
 ·funext j
  unfold upd
  by_cases h1 : j = 2 * s * t + r
  ·subst h1; rw [if_pos rfl]; unfold dn; rw [(pair_lo hr).1, if_pos (by omega)]
  ·rw [if_neg h1]
   by_cases h2 : j = 2 * s * t + r + s
   ·subst h2; rw [if_pos rfl]; unfold dn; rw [(pair_hi hr).1, if_pos (by omega)]
   ·rw [if_neg h2]; unfold dn; exact same _ _ _ _ (key j h1 h2)
 ·funext j
  unfold upd
  by_cases h2 : j = 2 * s * t + r + s
  ·subst h2; rw [if_pos rfl]; unfold dn; rw [(pair_hi hr).1, if_pos (by omega)]
  ·rw [if_neg h2]
   by_cases h1 : j = 2 * s * t + r
   ·subst h1; rw [if_pos rfl]; unfold dn; rw [(pair_lo hr).1, if_pos (by omega)]
   ·rw [if_neg h1]; unfold dn; exact same _ _ _ _ (key j h1 h2)
theorem ly_pair (K : Nat) {s t r : Nat} (hr : r < s) (f : Nat → Int) : ly ζ K s f (2 * s * t + r) = f (2 * s * t + r) + ζ (K + t) * f (2 * s * t + r + s) ∧ ly ζ K s f (2 * s * t + r + s) = f (2 * s * t + r) - ζ (K + t) * f (2 * s * t + r + s) := by
 obtain ⟨-, h1, h2⟩ := pair_lo (t := t) hr
 obtain ⟨-, h3, h4⟩ := pair_hi (t := t) hr
 unfold ly
 rw [h2, h1, if_pos hr, h4, h3, if_neg (by omega), Nat.add_sub_cancel]
 exact ⟨rfl, rfl⟩
theorem bk_pair (K : Nat) {s t r : Nat} (hr : r < s) (f : Nat → Int) : bk ζ K s f (2 * s * t + r) = f (2 * s * t + r) + f (2 * s * t + r + s) ∧ bk ζ K s f (2 * s * t + r + s) = - ζ (2 * K - 1 - t) * (f (2 * s * t + r) - f (2 * s * t + r + s)) := by
 obtain ⟨-, h1, h2⟩ := pair_lo (t := t) hr
 obtain ⟨-, h3, h4⟩ := pair_hi (t := t) hr
 unfold bk
 rw [h2, if_pos hr, h4, h3, if_neg (by omega), Nat.add_sub_cancel]
 exact ⟨rfl, rfl⟩
def red (f : Nat → Int) : Nat → Int := fun j => f j % 8380417
def thereR : Nat → (Nat → Int) → Nat → Int
 | 0, f => red f
 | m + 1, f => red (ly ζ (2 ^ m) (2 ^ (7 - m)) (thereR m f))
def backR : Nat → (Nat → Int) → Nat → Int
 | 0, f => red f
 | m + 1, f => red (bk ζ (2 ^ (7 - m)) (2 ^ m) (backR m f))
theorem thereR_cg (m : Nat) (hm : m ≤ 8) (f : Nat → Int) : ∀ j, j < 256 → Cg (thereR ζ m f j) (there ζ m f j) := by
 induction m with
 | zero => exact fun j _ => cg_mod _
 | succ m ih =>
  intro j hj
  have e := (size_m m (by omega)).1
  exact cg_trans (cg_mod _) (ly_cg ζ (2 ^ m) (2 ^ (7 - m)) (Nat.two_pow_pos _) (fun i hi => ih (by omega) i (by omega)) j (by omega))
theorem backR_cg (m : Nat) (hm : m ≤ 8) (f : Nat → Int) : ∀ j, j < 256 → Cg (backR ζ m f j) (back ζ m f j) := by
 induction m with
 | zero => exact fun j _ => cg_mod _
 | succ m ih =>
  intro j hj
  have e := (size_m m (by omega)).2
  exact cg_trans (cg_mod _) (bk_cg ζ (2 ^ (7 - m)) (2 ^ m) (Nat.two_pow_pos _) (fun i hi => ih (by omega) i (by omega)) j (by omega))
theorem thereR_red (m : Nat) (f : Nat → Int) (j : Nat) : 0 ≤ thereR ζ m f j ∧ thereR ζ m f j < 8380417 := by
 cases m with
 | zero => exact ⟨Int.emod_nonneg _ (by decide), Int.emod_lt_of_pos _ (by decide)⟩
 | succ m => exact ⟨Int.emod_nonneg _ (by decide), Int.emod_lt_of_pos _ (by decide)⟩
theorem backR_red (m : Nat) (f : Nat → Int) (j : Nat) : 0 ≤ backR ζ m f j ∧ backR ζ m f j < 8380417 := by
 cases m with
 | zero => exact ⟨Int.emod_nonneg _ (by decide), Int.emod_lt_of_pos _ (by decide)⟩
 | succ m => exact ⟨Int.emod_nonneg _ (by decide), Int.emod_lt_of_pos _ (by decide)⟩
theorem red_eq {a b : Int} (h : Cg a b) (ha : 0 ≤ a ∧ a < 8380417) (hb : 0 ≤ b ∧ b < 8380417) : a = b := by unfold Cg at h; omega
end nttl
end Go.Proofs.YtlcafjdehcddcaaGreatDoor
