/-
  Plain facts on the encoding of numbers and strings as bytes (layer 1): no program is named here. Conditions: as each theorem says.
-/
import Derived.Lib.BitFns
namespace Go.Proofs.Ythggakbomlgkhaa.oct
open Go

/-- byte j of n, from the least significant one on -/
def byteAt (n j : Nat) : UInt8 := UInt8.ofNat (n / 256 ^ j)
/-- the w least significant bytes of n, the most significant first -/
def fixL (n : Nat) : Nat → List UInt8
  | 0 => []
  | w + 1 => byteAt n w :: fixL n w
/-- the number whose bytes are l -/
def wo (l : List UInt8) : Nat := l.foldl (fun a b => a * 256 + b.toNat) 0
/-- .. modulo 2 to the power 64 -/
def woU (l : List UInt8) : Nat := wo l % 18446744073709551616

theorem byteAt_toNat (n j : Nat) : (byteAt n j).toNat = n / 256 ^ j % 256 := by
  simp [byteAt]
theorem fixL_length (n w : Nat) : (fixL n w).length = w := by
  induction w with
  | zero => rfl
  | succ w ih => simp [fixL, ih]
theorem fixL_get (n w i : Nat) (h : i < w) : (fixL n w)[i]? = some (byteAt n (w - 1 - i)) := by
  induction w generalizing i with
  | zero => omega
  | succ w ih =>
    cases i with
    | zero => simp [fixL]
    | succ i =>
      simp only [fixL, List.getElem?_cons_succ]
      rw [ih i (by omega)]
      congr 2
      omega
theorem fixL_take_succ (n w i : Nat) (h : i < w) : (fixL n w).take (i + 1) = (fixL n w).take i ++ [byteAt n (w - 1 - i)] := by
  rw [List.take_add_one, fixL_get n w i h]
  rfl
theorem wo_fold (l : List UInt8) (a : Nat) : l.foldl (fun a b => a * 256 + b.toNat) a = a * 256 ^ l.length + wo l := by
  induction l generalizing a with
  | nil => simp [wo]
  | cons x r ih =>
    have h : wo (x :: r) = x.toNat * 256 ^ r.length + wo r := by
      show List.foldl _ (0 * 256 + x.toNat) r = _
      rw [ih]
      simp
    rw [h, List.foldl_cons, ih, List.length_cons, Nat.pow_succ, Nat.add_mul, Nat.mul_comm (256 ^ r.length) 256, ← Nat.mul_assoc]
    omega
theorem wo_cons (x : UInt8) (r : List UInt8) : wo (x :: r) = x.toNat * 256 ^ r.length + wo r := by
  show List.foldl _ (0 * 256 + x.toNat) r = _
  rw [wo_fold]
  simp
theorem wo_snoc (l : List UInt8) (b : UInt8) : wo (l ++ [b]) = wo l * 256 + b.toNat := by
  simp [wo, List.foldl_append]
theorem wo_lt (l : List UInt8) : wo l < 256 ^ l.length := by
  induction l with
  | nil => simp [wo]
  | cons x r ih =>
    rw [wo_cons, List.length_cons, Nat.pow_succ]
    have h : x.toNat ≤ 255 := by have := x.toNat_lt; omega
    have h2 : x.toNat * 256 ^ r.length ≤ 255 * 256 ^ r.length := Nat.mul_le_mul_right _ h
    omega
theorem wo_fixL (n w : Nat) : wo (fixL n w) = n % 256 ^ w := by
  induction w with
  | zero => simp [fixL, wo, Nat.mod_one]
  | succ w ih =>
    rw [fixL, wo_cons, ih, fixL_length, byteAt_toNat, Nat.pow_succ, Nat.mod_mul, Nat.mul_comm (256 ^ w)]
    omega
theorem fixL_wo (l : List UInt8) : fixL (wo l) l.length = l := by
  have key : ∀ (r : List UInt8) (m : Nat), fixL (m * 256 ^ r.length + wo r) r.length = r := by
    intro r
    induction r with
    | nil => intro m; rfl
    | cons x r ih =>
      intro m
      have e : m * 256 ^ (x :: r).length + wo (x :: r) = (m * 256 + x.toNat) * 256 ^ r.length + wo r := by
        rw [wo_cons, List.length_cons, Nat.pow_succ, Nat.add_mul, Nat.mul_comm (256 ^ r.length) 256, ← Nat.mul_assoc]
        omega
      rw [e, List.length_cons, fixL, ih]
      congr 1
      have hw := wo_lt r
      unfold byteAt
      rw [Nat.mul_comm, Nat.mul_add_div (by exact Nat.pow_pos (by omega)), Nat.div_eq_of_lt hw]
      apply UInt8.toNat_inj.1
      have := x.toNat_lt
      simp
  have := key l 0
  simpa using this

/-- how many bytes n needs (n below 2 to the power 64) -/
def wd (n : Nat) : Nat :=
  if n = 0 then 0 else if n < 256 then 1 else if n < 65536 then 2 else if n < 16777216 then 3 else if n < 4294967296 then 4
  else if n < 1099511627776 then 5 else if n < 281474976710656 then 6 else 7

theorem wd_le (n : Nat) : wd n ≤ 7 := by
  unfold wd
  repeat' split
  all_goals omega
theorem wd_zero : wd 0 = 0 := rfl
theorem wd_step (n : Nat) (h0 : n ≠ 0) (h : n ≤ 1125899906842624) : wd n = wd (n / 256) + 1 := by
  unfold wd
  by_cases h1 : n < 256
  · rw [if_neg h0, if_pos h1, if_pos (by omega)]
  by_cases h2 : n < 65536
  · rw [if_neg h0, if_neg h1, if_pos h2, if_neg (by omega), if_pos (by omega)]
  by_cases h3 : n < 16777216
  · rw [if_neg h0, if_neg h1, if_neg h2, if_pos h3, if_neg (by omega), if_neg (by omega), if_pos (by omega)]
  by_cases h4 : n < 4294967296
  · rw [if_neg h0, if_neg h1, if_neg h2, if_neg h3, if_pos h4, if_neg (by omega), if_neg (by omega), if_neg (by omega), if_pos (by omega)]
  by_cases h5 : n < 1099511627776
  · rw [if_neg h0, if_neg h1, if_neg h2, if_neg h3, if_neg h4, if_pos h5, if_neg (by omega), if_neg (by omega), if_neg (by omega), if_neg (by omega), if_pos (by omega)]
  by_cases h6 : n < 281474976710656
  · rw [if_neg h0, if_neg h1, if_neg h2, if_neg h3, if_neg h4, if_neg h5, if_pos h6, if_neg (by omega), if_neg (by omega), if_neg (by omega), if_neg (by omega), if_neg (by omega), if_pos (by omega)]
  · rw [if_neg h0, if_neg h1, if_neg h2, if_neg h3, if_neg h4, if_neg h5, if_neg h6, if_neg (by omega), if_neg (by omega), if_neg (by omega), if_neg (by omega), if_neg (by omega), if_neg (by omega), if_pos (by omega)]
theorem wd_lt (n : Nat) (h : n ≤ 1125899906842624) : n < 256 ^ wd n := by
  unfold wd
  repeat' split
  all_goals first | omega | (simp; omega)
theorem wd_ge (n : Nat) (h0 : n ≠ 0) : 256 ^ (wd n - 1) ≤ n := by
  unfold wd
  repeat' split
  all_goals first | omega | (simp; omega)
theorem wd_of (n k : Nat) (hk : k ≤ 7) (hl : n < 256 ^ k) (hg : k ≠ 0 → 256 ^ (k - 1) ≤ n) : wd n = k := by
  have h : k = 0 ∨ k = 1 ∨ k = 2 ∨ k = 3 ∨ k = 4 ∨ k = 5 ∨ k = 6 ∨ k = 7 := by omega
  rcases h with rfl | rfl | rfl | rfl | rfl | rfl | rfl | rfl
  all_goals
    simp at hl hg
    unfold wd
    repeat' split
    all_goals omega

theorem bitLen_small : ∀ n : Fin 256, (Lib.bitLen n.val + 7) / 8 = if n.val = 0 then 0 else 1 := by decide +kernel
theorem wd_bitLen (n : Nat) (h : n ≤ 1125899906842624) : (Lib.bitLen n + 7) / 8 = wd n := by
  have key : ∀ f m : Nat, m ≤ 1125899906842624 → m < 256 ^ f → (Lib.bitLen m + 7) / 8 = wd m := by
    intro f
    induction f with
    | zero =>
      intro m hm hf
      have : m = 0 := by simpa using hf
      subst this
      rfl
    | succ f ih =>
      intro m hm hf
      by_cases hs : m < 256
      · have := bitLen_small ⟨m, hs⟩
        simp only at this
        rw [this]
        by_cases h0 : m = 0
        · rw [if_pos h0, h0]; rfl
        · rw [if_neg h0, wd, if_neg h0, if_pos hs]
      · rw [Lib.bitLen_shift8 m (by omega) (by omega), wd_step m (by omega) hm, ← ih (m / 256) (by omega) (by rw [Nat.pow_succ] at hf; omega)]
        omega
  exact key 7 n h (by simp; omega)

/-! ### The document's answers -/

def intL (n : Int) : List UInt8 × Int :=
  if n < 0 ∨ 1125899906842624 < n then ([], 6) else (UInt8.ofNat (wd n.toNat) :: fixL n.toNat (wd n.toNat), 0)
def textL (t : List UInt8) (most : Int) : List UInt8 × Int :=
  if most < t.length then ([], 5) else if (intL t.length).2 = 0 then ((intL t.length).1 ++ t, 0) else ([], (intL t.length).2)
def fixS (n : Nat) (width : Int) : List UInt8 := if width < 1 ∨ 50000 < width then [] else fixL n width.toNat
def rdInt (l : List UInt8) (p : Int) : Int × Int × Int :=
  if p < 0 ∨ (l.length : Int) < p then (0, 0, 1)
  else if p = l.length then (0, 0, 2)
  else if 7 < (l[p.toNat]?.getD 0).toNat then (0, 0, 3)
  else if (l.length : Int) - (p + 1) < (l[p.toNat]?.getD 0).toNat then (0, 0, 2)
  else if 0 < (l[p.toNat]?.getD 0).toNat ∧ (l[p.toNat + 1]?.getD 0).toNat = 0 then (0, 0, 3)
  else if 1125899906842624 < wo ((l.drop (p.toNat + 1)).take (l[p.toNat]?.getD 0).toNat) then (0, 0, 3)
  else ((wo ((l.drop (p.toNat + 1)).take (l[p.toNat]?.getD 0).toNat) : Int), p + 1 + (l[p.toNat]?.getD 0).toNat, 0)
def rdText (l : List UInt8) (p most : Int) : List UInt8 × Int × Int :=
  if (rdInt l p).2.2 = 0 then
    if most < (rdInt l p).1 then ([], 0, 5)
    else if (l.length : Int) - (rdInt l p).2.1 < (rdInt l p).1 then ([], 0, 2)
    else ((l.drop (rdInt l p).2.1.toNat).take (rdInt l p).1.toNat, (rdInt l p).2.1 + (rdInt l p).1, 0)
  else ([], 0, (rdInt l p).2.2)

theorem fixS_wd (n k : Nat) (h : k ≤ 50000) : fixS n (k : Int) = fixL n k := by
  unfold fixS
  by_cases h0 : k = 0
  · subst h0; rfl
  · rw [if_neg (by omega), Int.toNat_natCast]
theorem fixS_one (k : Nat) : fixS k 1 = [UInt8.ofNat k] := by
  have e : fixS k 1 = fixL k 1 := fixS_wd k 1 (by omega)
  rw [e]
  simp [fixL, byteAt]
theorem intL_out (n : Int) (h : n < 0 ∨ 1125899906842624 < n) : intL n = ([], 6) := by rw [intL, if_pos h]
theorem intL_in (m : Nat) (h : m ≤ 1125899906842624) : intL (m : Int) = (UInt8.ofNat (wd m) :: fixL m (wd m), 0) := by
  rw [intL, if_neg (by omega), Int.toNat_natCast]
theorem rdInt_arg (l : List UInt8) (p : Int) (h : p < 0 ∨ (l.length : Int) < p) : rdInt l p = (0, 0, 1) := by rw [rdInt, if_pos h]
theorem rdInt_end (l : List UInt8) : rdInt l (l.length : Int) = (0, 0, 2) := by rw [rdInt, if_neg (by omega), if_pos rfl]
section
variable (l : List UInt8) (q c : Nat) (hq : q < l.length) (hc : (l[q]?.getD 0).toNat = c)
include hq hc
theorem rdInt_wide (h : 7 < c) : rdInt l (q : Int) = (0, 0, 3) := by
  rw [rdInt, if_neg (by omega), if_neg (by omega), Int.toNat_natCast, hc, if_pos h]
theorem rdInt_short (h7 : c ≤ 7) (h : l.length < q + 1 + c) : rdInt l (q : Int) = (0, 0, 2) := by
  rw [rdInt, if_neg (by omega), if_neg (by omega), Int.toNat_natCast, hc, if_neg (by omega), if_pos (by omega)]
theorem rdInt_zero (h7 : c ≤ 7) (h : q + 1 + c ≤ l.length) (h0 : 0 < c) (hz : (l[q + 1]?.getD 0).toNat = 0) : rdInt l (q : Int) = (0, 0, 3) := by
  rw [rdInt, if_neg (by omega), if_neg (by omega), Int.toNat_natCast, hc, if_neg (by omega), if_neg (by omega), if_pos ⟨h0, hz⟩]
theorem rdInt_over (h7 : c ≤ 7) (h : q + 1 + c ≤ l.length) (hz : 0 < c → (l[q + 1]?.getD 0).toNat ≠ 0) (hm : 1125899906842624 < wo ((l.drop (q + 1)).take c)) : rdInt l (q : Int) = (0, 0, 3) := by
  rw [rdInt, if_neg (by omega), if_neg (by omega), Int.toNat_natCast, hc, if_neg (by omega), if_neg (by omega), if_neg (fun x => hz x.1 x.2), if_pos hm]
theorem rdInt_good (h7 : c ≤ 7) (h : q + 1 + c ≤ l.length) (hz : 0 < c → (l[q + 1]?.getD 0).toNat ≠ 0) (hm : wo ((l.drop (q + 1)).take c) ≤ 1125899906842624) :
    rdInt l (q : Int) = ((wo ((l.drop (q + 1)).take c) : Int), (q : Int) + 1 + c, 0) := by
  rw [rdInt, if_neg (by omega), if_neg (by omega), Int.toNat_natCast, hc, if_neg (by omega), if_neg (by omega), if_neg (fun x => hz x.1 x.2), if_neg (by omega)]
end
theorem rdInt_facts (l : List UInt8) (p : Int) (h : (rdInt l p).2.2 = 0) :
    ∃ n q c : Nat, rdInt l p = ((n : Int), ((q + 1 + c : Nat) : Int), 0) ∧ p = (q : Int) ∧ n ≤ 1125899906842624 ∧ q + 1 + c ≤ l.length ∧ c ≤ 7 ∧ n = wo ((l.drop (q + 1)).take c) ∧
      l[q]? = some (UInt8.ofNat c) ∧ (0 < c → (l[q + 1]?.getD 0).toNat ≠ 0) := by
  by_cases h1 : p < 0 ∨ (l.length : Int) < p
  · rw [rdInt_arg l p h1] at h; simp at h
  obtain ⟨q, rfl⟩ := Int.eq_ofNat_of_zero_le (show 0 ≤ p by omega)
  by_cases h2 : q = l.length
  · subst h2; rw [rdInt_end] at h; simp at h
  have hq : q < l.length := by omega
  obtain ⟨c, hc⟩ : ∃ c, (l[q]?.getD 0).toNat = c := ⟨_, rfl⟩
  by_cases h3 : 7 < c
  · rw [rdInt_wide l q c hq hc h3] at h; simp at h
  by_cases h4 : l.length < q + 1 + c
  · rw [rdInt_short l q c hq hc (by omega) h4] at h; simp at h
  by_cases h5 : 0 < c ∧ (l[q + 1]?.getD 0).toNat = 0
  · rw [rdInt_zero l q c hq hc (by omega) (by omega) h5.1 h5.2] at h; simp at h
  have hz : 0 < c → (l[q + 1]?.getD 0).toNat ≠ 0 := fun a b => h5 ⟨a, b⟩
  by_cases h6 : 1125899906842624 < wo ((l.drop (q + 1)).take c)
  · rw [rdInt_over l q c hq hc (by omega) (by omega) hz h6] at h; simp at h
  refine ⟨_, q, c, rdInt_good l q c hq hc (by omega) (by omega) hz (by omega), rfl, by omega, by omega, by omega, rfl, ?_, hz⟩
  rw [List.getElem?_eq_getElem hq] at hc ⊢
  simp only [Option.getD_some] at hc
  rw [← hc]
  simp
theorem textL_long (t : List UInt8) (most : Int) (h : most < t.length) : textL t most = ([], 5) := by rw [textL, if_pos h]
theorem textL_over (t : List UInt8) (most : Int) (h : ¬ most < t.length) (h2 : 1125899906842624 < t.length) : textL t most = ([], 6) := by
  rw [textL, if_neg h, intL_out _ (by omega), if_neg (by simp)]
theorem textL_good (t : List UInt8) (most : Int) (h : ¬ most < t.length) (h2 : t.length ≤ 1125899906842624) :
    textL t most = ((UInt8.ofNat (wd t.length) :: fixL t.length (wd t.length)) ++ t, 0) := by
  rw [textL, if_neg h, intL_in _ h2, if_pos rfl]
theorem woU_small (l : List UInt8) (h : l.length ≤ 7) : woU l = wo l := by
  have h1 := wo_lt l
  have h2 : 256 ^ l.length ≤ 256 ^ 7 := Nat.pow_le_pow_right (by omega) h
  unfold woU
  exact Nat.mod_eq_of_lt (by omega)
end Go.Proofs.Ythggakbomlgkhaa.oct
