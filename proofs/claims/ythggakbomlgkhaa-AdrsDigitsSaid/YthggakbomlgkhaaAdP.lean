/-
  Plain facts on numbers written in so many bytes one behind the other, filled from the least significant byte on, and on digits taken from a string's bits (no program is named here). Conditions: as each theorem says.
-/
import Derived.Test.YthggakbomlgkhaaOct
namespace Go.Proofs.Ythggakbomlgkhaa.adp
open Go
open Go.Proofs.Ythggakbomlgkhaa.oct

/-- the first m numbers of X, each in W bytes -/
def cat (X W : Nat → Nat) : Nat → List UInt8
  | 0 => []
  | m + 1 => cat X W m ++ fixL (X m) (W m)
/-- how many bytes these are -/
def sw (W : Nat → Nat) : Nat → Nat
  | 0 => 0
  | m + 1 => sw W m + W m
theorem cat_length (X W : Nat → Nat) (m : Nat) : (cat X W m).length = sw W m := by
  induction m with
  | zero => rfl
  | succ m ih => rw [cat, sw, List.length_append, ih, fixL_length]
theorem cat_congr {X Y W : Nat → Nat} (m : Nat) (h : ∀ j, j < m → X j = Y j) : cat X W m = cat Y W m := by
  induction m with
  | zero => rfl
  | succ m ih => rw [cat, cat, ih (fun j hj => h j (by omega)), h m (by omega)]
theorem sw_le {W : Nat → Nat} {n m : Nat} (h : n < m) : sw W n + W n ≤ sw W m := by
  induction m with
  | zero => omega
  | succ m ih =>
    rw [sw]
    by_cases e : n = m
    · subst e; exact Nat.le_refl _
    · have := ih (by omega); omega
theorem cat_set {X Y W : Nat → Nat} {n m q : Nat} {b : UInt8} (hn : n < m) (hq : q < W n) (hY : ∀ j, j < m → j ≠ n → Y j = X j) (hb : (fixL (X n) (W n)).set q b = fixL (Y n) (W n)) : (cat X W m).set (sw W n + q) b = cat Y W m := by
  induction m with
  | zero => omega
  | succ m ih =>
    rw [cat, cat]
    by_cases e : n = m
    · subst e
      rw [List.set_append_right _ _ (by rw [cat_length]; omega), cat_length, Nat.add_sub_cancel_left, hb, cat_congr n (fun j hj => hY j (by omega) (by omega))]
    · have h1 := sw_le (W := W) (show n < m by omega)
      rw [List.set_append_left _ _ (by rw [cat_length]; omega), ih (by omega) (fun j hj => hY j (by omega)), hY m (by omega) (Ne.symm e)]
theorem byteAt_mod (n i s : Nat) : byteAt (n % 256 ^ i) s = if s < i then byteAt n s else 0 := by
  apply UInt8.toNat_inj.1
  by_cases h : s < i
  · rw [if_pos h, byteAt_toNat, byteAt_toNat]
    have e : 256 ^ i = 256 ^ s * 256 ^ (i - s) := by rw [← Nat.pow_add]; congr 1; omega
    rw [e, Nat.mod_mul_right_div_self, Nat.mod_mod_of_dvd _ (Nat.dvd_of_pow_dvd (k := i - s) (by omega) (Nat.dvd_refl _))]
  · rw [if_neg h, byteAt_toNat]
    have h1 : n % 256 ^ i < 256 ^ s := Nat.lt_of_lt_of_le (Nat.mod_lt _ (Nat.pow_pos (by omega))) (Nat.pow_le_pow_right (by omega) (by omega))
    rw [Nat.div_eq_of_lt h1]
    rfl
theorem fixL_ext {n n' w : Nat} (h : ∀ s, s < w → byteAt n s = byteAt n' s) : fixL n w = fixL n' w := by
  induction w with
  | zero => rfl
  | succ w ih => rw [fixL, fixL, h w (by omega), ih (fun s hs => h s (by omega))]
theorem fixL_past (n w i : Nat) (h : w ≤ i) : fixL (n % 256 ^ i) w = fixL n w := fixL_ext fun s hs => by rw [byteAt_mod, if_pos (by omega)]
theorem fixL_zeros (w : Nat) : fixL 0 w = List.replicate w 0 := by
  induction w with
  | zero => rfl
  | succ w ih => rw [fixL, ih, List.replicate_succ]; congr 1; unfold byteAt; rw [Nat.zero_div]; rfl
theorem fixL_set (n w i : Nat) (h : i < w) : (fixL (n % 256 ^ i) w).set (w - 1 - i) (byteAt n i) = fixL (n % 256 ^ (i + 1)) w := by
  induction w with
  | zero => omega
  | succ w ih =>
    rw [fixL, fixL]
    by_cases e : i = w
    · subst e
      rw [show i + 1 - 1 - i = 0 by omega, List.set_cons_zero, byteAt_mod, if_pos (by omega)]
      congr 1
      rw [fixL_past n i i (Nat.le_refl _), fixL_past n i (i + 1) (by omega)]
    · rw [show w + 1 - 1 - i = (w - 1 - i) + 1 by omega, List.set_cons_succ, ih (by omega), byteAt_mod, byteAt_mod, if_neg (by omega), if_neg (by omega)]
/-- a round's numbers: those before n have one byte more -/
def mid (X : Nat → Nat) (i n : Nat) : Nat → Nat := fun j => X j % 256 ^ (if j < n then i + 1 else i)
theorem mid_zero (X : Nat → Nat) (i : Nat) : mid X i 0 = fun j => X j % 256 ^ i := by
  funext j; unfold mid; rw [if_neg (by omega)]
theorem mid_all (X W : Nat → Nat) (i m : Nat) : cat (mid X i m) W m = cat (mid X (i + 1) 0) W m := cat_congr m fun j hj => by unfold mid; rw [if_pos hj, if_neg (by omega)]
theorem cat_step (X W : Nat → Nat) (i n m : Nat) (hn : n < m) (hi : i < W n) : (cat (mid X i n) W m).set (sw W n + (W n - 1 - i)) (byteAt (X n) i) = cat (mid X i (n + 1)) W m := by
  refine cat_set hn (by omega) (fun j _ hj => ?_) ?_
  · unfold mid
    by_cases h : j < n
    · rw [if_pos h, if_pos (by omega)]
    · rw [if_neg h, if_neg (by omega)]
  · unfold mid
    rw [if_neg (Nat.lt_irrefl n), if_pos (Nat.lt_succ_self n)]
    exact fixL_set (X n) (W n) i hi
theorem cat_still (X W : Nat → Nat) (i n m : Nat) (hi : W n ≤ i) : cat (mid X i n) W m = cat (mid X i (n + 1)) W m := by
  induction m with
  | zero => rfl
  | succ m ih =>
    rw [cat, cat, ih]
    congr 1
    unfold mid
    by_cases h : m < n
    · rw [if_pos h, if_pos (by omega)]
    · rw [if_neg h]
      by_cases h2 : m = n
      · subst h2
        rw [if_pos (by omega), fixL_past _ _ _ hi, fixL_past _ _ _ (by omega)]
      · rw [if_neg (by omega)]
theorem cat_zeros (X W : Nat → Nat) (m : Nat) : cat (mid X 0 0) W m = List.replicate (sw W m) 0 := by
  induction m with
  | zero => rfl
  | succ m ih =>
    rw [cat, sw, ih, List.replicate_append_replicate.symm]
    congr 1
    unfold mid
    rw [if_neg (by omega), Nat.pow_zero, Nat.mod_one, fixL_zeros]
theorem cat_full (X W : Nat → Nat) (i m : Nat) (h : ∀ j, j < m → X j / 256 ^ i = 0) : cat (mid X i 0) W m = cat X W m := cat_congr m fun j hj => by
  unfold mid
  rw [if_neg (by omega)]
  refine Nat.mod_eq_of_lt ?_
  rcases Nat.div_eq_zero_iff.1 (h j hj) with q | q
  · have := Nat.pow_pos (n := i) (show 0 < 256 by decide); omega
  · exact q
/-- numbers that go into their bytes are told by them -/
theorem cat_inj {X Y W : Nat → Nat} {m : Nat} (hX : ∀ j, j < m → X j < 256 ^ W j) (hY : ∀ j, j < m → Y j < 256 ^ W j) (h : cat X W m = cat Y W m) : ∀ j, j < m → X j = Y j := by
  induction m with
  | zero => intro j hj; omega
  | succ m ih =>
    rw [cat, cat] at h
    obtain ⟨h1, h2⟩ := List.append_inj h (by rw [cat_length, cat_length])
    intro j hj
    by_cases e : j = m
    · subst e
      have h3 := congrArg wo h2
      rw [wo_fixL, wo_fixL, Nat.mod_eq_of_lt (hX j hj), Nat.mod_eq_of_lt (hY j hj)] at h3
      exact h3
    · exact ih (fun j hj => hX j (by omega)) (fun j hj => hY j (by omega)) h1 j (by omega)

/-! ### Digits -/

/-- the number of the first m bytes -/
def hd (f : Nat → Nat) : Nat → Nat
  | 0 => 0
  | m + 1 => hd f m * 256 + f m
/-- the first bytes that hold so many bits -/
def cl (x : Nat) : Nat := (x + 7) / 8
/-- digit i -/
def dg (f : Nat → Nat) (w i : Nat) : Nat := hd f (cl ((i + 1) * w)) % 2 ^ (8 * cl ((i + 1) * w) - i * w) / 2 ^ (8 * cl ((i + 1) * w) - (i + 1) * w)
theorem hd_step (f : Nat → Nat) (m c : Nat) (hf : f m < 256) : hd f m % 2 ^ c * 256 + f m = hd f (m + 1) % 2 ^ (c + 8) := by
  rw [hd, Nat.pow_add, show (2 : Nat) ^ 8 = 256 from rfl, Nat.mul_comm (2 ^ c) 256, Nat.mod_mul]
  have h1 : (hd f m * 256 + f m) / 256 = hd f m := by omega
  have h2 : (hd f m * 256 + f m) % 256 = f m := by omega
  rw [h1, h2]
  omega
theorem hd_take (f : Nat → Nat) (m c d : Nat) (h : d ≤ c) : hd f m % 2 ^ c % 2 ^ d = hd f m % 2 ^ d := Nat.mod_mod_of_dvd _ (Nat.pow_dvd_pow 2 h)
theorem dg_is (f : Nat → Nat) (w i m c : Nat) (hm : 8 * m = i * w + c) (h1 : w ≤ c) (h2 : c < w + 8) : hd f m % 2 ^ c / 2 ^ (c - w) = dg f w i := by
  have e0 : (i + 1) * w = i * w + w := Nat.succ_mul i w
  have e1 : cl ((i + 1) * w) = m := by unfold cl; omega
  unfold dg
  rw [e1, e0, show 8 * m - i * w = c by omega, show 8 * m - (i * w + w) = c - w by omega]
theorem dg_lt (f : Nat → Nat) (w i : Nat) : dg f w i < 2 ^ w := by
  have e0 : (i + 1) * w = i * w + w := Nat.succ_mul i w
  unfold dg
  have h : (i + 1) * w ≤ 8 * cl ((i + 1) * w) := by unfold cl; omega
  generalize cl ((i + 1) * w) = m at h
  rw [e0] at h ⊢
  refine Nat.div_lt_of_lt_mul ?_
  rw [← Nat.pow_add, show 8 * m - (i * w + w) + w = 8 * m - i * w by omega]
  exact Nat.mod_lt _ (Nat.pow_pos (by decide))
theorem hd_bit (f : Nat → Nat) (hf : ∀ j, f j < 256) (m p : Nat) (h : p < 8 * m) : hd f m / 2 ^ (8 * m - 1 - p) % 2 = f (p / 8) / 2 ^ (7 - p % 8) % 2 := by
  induction m with
  | zero => omega
  | succ m ih =>
    rw [hd]
    by_cases e : p / 8 = m
    · have hm := hf m
      rw [e, show 8 * (m + 1) - 1 - p = 7 - p % 8 by omega]
      have hq : 7 - p % 8 ≤ 7 := by omega
      generalize 7 - p % 8 = q at hq
      have e8 : (256 : Nat) = 2 ^ q * 2 ^ (8 - q) := by rw [← Nat.pow_add, show q + (8 - q) = 8 by omega]
      have e7 : (2 : Nat) ^ (8 - q) = 2 ^ (7 - q) * 2 := by rw [show 8 - q = (7 - q) + 1 by omega, Nat.pow_succ]
      have e9 : hd f m * 256 + f m = f m + 2 ^ q * (hd f m * 2 ^ (8 - q)) := by
        rw [Nat.add_comm]
        congr 1
        rw [e8]
        exact Nat.mul_left_comm _ _ _
      rw [e9, Nat.add_mul_div_left _ _ (Nat.pow_pos (by decide)), e7, ← Nat.mul_assoc, Nat.add_mul_mod_self_right]
    · have hp : p < 8 * m := by omega
      rw [← ih hp, show 8 * (m + 1) - 1 - p = 8 + (8 * m - 1 - p) by omega, Nat.pow_add, show (2 : Nat) ^ 8 = 256 from rfl, ← Nat.div_div_eq_div_mul]
      congr 2
      have hm := hf m
      omega
/-- a digit's bits are the string's -/
theorem dg_bit (f : Nat → Nat) (hf : ∀ j, f j < 256) (w i k : Nat) (hk : k < w) : dg f w i / 2 ^ k % 2 = f ((i * w + (w - 1 - k)) / 8) / 2 ^ (7 - (i * w + (w - 1 - k)) % 8) % 2 := by
  have e0 : (i + 1) * w = i * w + w := Nat.succ_mul i w
  have h : (i + 1) * w ≤ 8 * cl ((i + 1) * w) := by unfold cl; omega
  unfold dg
  generalize cl ((i + 1) * w) = m at h
  rw [e0] at h ⊢
  rw [← hd_bit f hf m (i * w + (w - 1 - k)) (by omega), Nat.div_div_eq_div_mul, ← Nat.pow_add, show 8 * m - (i * w + w) + k = 8 * m - 1 - (i * w + (w - 1 - k)) by omega]
  have h3 : 8 * m - 1 - (i * w + (w - 1 - k)) < 8 * m - i * w := by omega
  generalize 8 * m - 1 - (i * w + (w - 1 - k)) = x at h3
  generalize 8 * m - i * w = y at h3
  have e1 : (2 : Nat) ^ y = 2 ^ x * 2 ^ (y - x) := by rw [← Nat.pow_add, show x + (y - x) = y by omega]
  obtain ⟨z, hz⟩ : ∃ z, y - x = z + 1 := ⟨y - x - 1, by omega⟩
  rw [e1, Nat.mod_mul_right_div_self, hz, Nat.pow_succ, Nat.mul_comm, Nat.mod_mul_right_mod]
/-- a string's byte, zero behind its end -/
def sb (s : ByteArray) (j : Nat) : Nat := (s.data.toList.getD j 0).toNat
theorem sb_lt (s : ByteArray) (j : Nat) : sb s j < 256 := UInt8.toNat_lt _
theorem sb_at (s : ByteArray) (j : Nat) (h : j < s.size) : sb s j = (s[j]'h).toNat := by
  unfold sb
  rw [List.getD_eq_getElem?_getD, List.getElem?_eq_getElem (by simpa using h)]
  rfl
theorem sb_past (s : ByteArray) (j : Nat) (h : s.size ≤ j) : sb s j = 0 := by
  unfold sb
  rw [List.getD_eq_getElem?_getD, List.getElem?_eq_none (by simpa using h)]
  rfl
end Go.Proofs.Ythggakbomlgkhaa.adp
