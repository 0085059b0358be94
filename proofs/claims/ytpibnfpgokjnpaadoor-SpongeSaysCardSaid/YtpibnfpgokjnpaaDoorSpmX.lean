/-
  Plain facts on the sponge for a program that goes by whole lanes: bytes mixed in a row, a lane of eight bytes, bytes read in a row (no program is named here). Conditions: as each theorem says.
-/
import Derived.Test.YtpibnfpgokjnpaaDoorSpgM
namespace Go.Proofs.YtpibnfpgokjnpaaDoor.spmx
open Go.Proofs.YtpibnfpgokjnpaaDoor.arr Go.Proofs.YtpibnfpgokjnpaaDoor.kecm Go.Proofs.YtpibnfpgokjnpaaDoor.spgm

/-- bytes are mixed in from p on -/
def xbs (l : List Nat) (p : Nat) : List Nat → List Nat
  | [] => l
  | b :: bs => xbs (xb l p b) (p + 1) bs
theorem xbs_append (x y : List Nat) : ∀ (l : List Nat) (p : Nat), xbs l p (x ++ y) = xbs (xbs l p x) (p + x.length) y := by
  induction x with
  | nil => intro l p; rfl
  | cons b x ih =>
    intro l p
    show xbs (xb l p b) (p + 1) (x ++ y) = xbs (xbs (xb l p b) (p + 1) x) (p + (b :: x).length) y
    rw [ih, List.length_cons, show p + 1 + x.length = p + (x.length + 1) by omega]
theorem xbs_st (bs : List Nat) : ∀ {l : List Nat} (_ : St l) (p : Nat), St (xbs l p bs) := by
  induction bs with
  | nil => intro l h p; exact h
  | cons b bs ih => intro l h p; exact ih (xb_st h p b) (p + 1)
theorem abs_lt (P : List Nat → List Nat) (r : Nat) (bs : List Nat) : ∀ (l : List Nat) (p : Nat), p + bs.length < r → abs P r ⟨l, p⟩ bs = ⟨xbs l p bs, p + bs.length⟩ := by
  induction bs with
  | nil => intro l p _; rfl
  | cons b bs ih =>
    intro l p h
    rw [List.length_cons] at h
    show abs P r (ab P r ⟨l, p⟩ b) bs = _
    have e : ab P r ⟨l, p⟩ b = ⟨xb l p b, p + 1⟩ := by unfold ab; rw [if_neg (by show ¬ p + 1 = r; omega)]
    rw [e, ih _ _ (by omega)]
    show (⟨_, _⟩ : Sp) = ⟨xbs (xb l p b) (p + 1) bs, _⟩
    congr 1
    rw [List.length_cons]; omega
theorem abs_eq (P : List Nat → List Nat) (r : Nat) (bs : List Nat) (l : List Nat) (p : Nat) (h0 : bs ≠ []) (h : p + bs.length = r) : abs P r ⟨l, p⟩ bs = ⟨P (xbs l p bs), 0⟩ := by
  have e : bs = bs.dropLast ++ [bs.getLast h0] := (List.dropLast_concat_getLast h0).symm
  have hl : bs.dropLast.length + 1 = bs.length := by
    rw [List.length_dropLast]
    have : bs.length ≠ 0 := fun h => h0 (List.eq_nil_of_length_eq_zero h)
    omega
  rw [e, abs_append, abs_lt P r _ l p (by omega), xbs_append]
  show ab P r ⟨xbs l p bs.dropLast, p + bs.dropLast.length⟩ (bs.getLast h0) = _
  unfold ab
  rw [if_pos (by show p + bs.dropLast.length + 1 = r; omega)]
  rfl
theorem xbs_snoc (l : List Nat) (p : Nat) (x : List Nat) (b : Nat) : xbs l p (x ++ [b]) = xb (xbs l p x) (p + x.length) b := by rw [xbs_append]; rfl
/-- two words without a common bit -/
theorem or_xor (a b k : Nat) (h : a < 2 ^ k) : a ||| b * 2 ^ k = a ^^^ b * 2 ^ k := by
  apply Nat.eq_of_testBit_eq
  intro i
  rw [Nat.testBit_or, Nat.testBit_xor]
  by_cases hi : i < k
  · have : (b * 2 ^ k).testBit i = false := by rw [Nat.testBit_mul_two_pow]; simp; omega
    rw [this]; simp
  · have : a.testBit i = false := Nat.testBit_lt_two_pow (Nat.lt_of_lt_of_le h (Nat.pow_le_pow_right (by decide) (by omega)))
    rw [this]; simp
theorem or_lt (a b k j : Nat) (ha : a < 2 ^ k) (hb : b < 2 ^ j) : a ||| b * 2 ^ k < 2 ^ (k + j) := by
  refine Nat.or_lt_two_pow (Nat.lt_of_lt_of_le ha (Nat.pow_le_pow_right (by decide) (by omega))) ?_
  rw [Nat.add_comm k j, Nat.pow_add]
  exact Nat.mul_lt_mul_of_pos_right hb (Nat.two_pow_pos _)
/-- the lane of eight bytes -/
def w8 (b0 b1 b2 b3 b4 b5 b6 b7 : Nat) : Nat := b0 ||| b1 * 2 ^ 8 ||| b2 * 2 ^ 16 ||| b3 * 2 ^ 24 ||| b4 * 2 ^ 32 ||| b5 * 2 ^ 40 ||| b6 * 2 ^ 48 ||| b7 * 2 ^ 56
theorem w8_parts {b0 b1 b2 b3 b4 b5 b6 b7 : Nat} (h0 : b0 < 256) (h1 : b1 < 256) (h2 : b2 < 256) (h3 : b3 < 256) (h4 : b4 < 256) (h5 : b5 < 256) (h6 : b6 < 256) (h7 : b7 < 256) :
    (b0 ||| b1 * 2 ^ 8 < 2 ^ 16 ∧ b0 ||| b1 * 2 ^ 8 ||| b2 * 2 ^ 16 < 2 ^ 24 ∧ b0 ||| b1 * 2 ^ 8 ||| b2 * 2 ^ 16 ||| b3 * 2 ^ 24 < 2 ^ 32 ∧ b0 ||| b1 * 2 ^ 8 ||| b2 * 2 ^ 16 ||| b3 * 2 ^ 24 ||| b4 * 2 ^ 32 < 2 ^ 40 ∧
    b0 ||| b1 * 2 ^ 8 ||| b2 * 2 ^ 16 ||| b3 * 2 ^ 24 ||| b4 * 2 ^ 32 ||| b5 * 2 ^ 40 < 2 ^ 48 ∧ b0 ||| b1 * 2 ^ 8 ||| b2 * 2 ^ 16 ||| b3 * 2 ^ 24 ||| b4 * 2 ^ 32 ||| b5 * 2 ^ 40 ||| b6 * 2 ^ 48 < 2 ^ 56 ∧ w8 b0 b1 b2 b3 b4 b5 b6 b7 < 18446744073709551616) := by
  have k1 := or_lt b0 b1 8 8 h0 h1
  have k2 := or_lt _ b2 16 8 k1 h2
  have k3 := or_lt _ b3 24 8 k2 h3
  have k4 := or_lt _ b4 32 8 k3 h4
  have k5 := or_lt _ b5 40 8 k4 h5
  have k6 := or_lt _ b6 48 8 k5 h6
  have k7 := or_lt _ b7 56 8 k6 h7
  exact ⟨k1, k2, k3, k4, k5, k6, k7⟩
theorem w8_xor {b0 b1 b2 b3 b4 b5 b6 b7 : Nat} (h0 : b0 < 256) (h1 : b1 < 256) (h2 : b2 < 256) (h3 : b3 < 256) (h4 : b4 < 256) (h5 : b5 < 256) (h6 : b6 < 256) (h7 : b7 < 256) :
    w8 b0 b1 b2 b3 b4 b5 b6 b7 = b0 ^^^ b1 * 2 ^ 8 ^^^ b2 * 2 ^ 16 ^^^ b3 * 2 ^ 24 ^^^ b4 * 2 ^ 32 ^^^ b5 * 2 ^ 40 ^^^ b6 * 2 ^ 48 ^^^ b7 * 2 ^ 56 := by
  obtain ⟨k1, k2, k3, k4, k5, k6, k7⟩ := w8_parts h0 h1 h2 h3 h4 h5 h6 h7
  unfold w8
  rw [or_xor _ b7 56 k6, or_xor _ b6 48 k5, or_xor _ b5 40 k4, or_xor _ b4 32 k3, or_xor _ b3 24 k2, or_xor _ b2 16 k1, or_xor b0 b1 8 h0]
theorem xb_lane (l : List Nat) (q i b : Nat) (hb : b < 256) (hi : i < 8) : xb l (8 * q + i) b = l.set q (g l q ^^^ b * 2 ^ (8 * i)) := by
  unfold xb
  rw [show (8 * q + i) / 8 = q by omega, show (8 * q + i) % 8 = i by omega, Nat.mod_eq_of_lt (byte_at b i hb hi)]
theorem g_self (l : List Nat) (q x : Nat) (hq : q < l.length) : g (l.set q x) q = x := by rw [g_set, if_pos ⟨rfl, hq⟩]
theorem xbs_lane {l : List Nat} {q b0 b1 b2 b3 b4 b5 b6 b7 : Nat} (hq : q < l.length) (h0 : b0 < 256) (h1 : b1 < 256) (h2 : b2 < 256) (h3 : b3 < 256) (h4 : b4 < 256) (h5 : b5 < 256) (h6 : b6 < 256) (h7 : b7 < 256) :
    xbs l (8 * q) [b0, b1, b2, b3, b4, b5, b6, b7] = l.set q (g l q ^^^ w8 b0 b1 b2 b3 b4 b5 b6 b7) := by
  have e0 : xb l (8 * q) b0 = l.set q (g l q ^^^ b0) := by have := xb_lane l q 0 b0 h0 (by decide); simpa using this
  show xb (xb (xb (xb (xb (xb (xb (xb l (8 * q) b0) (8 * q + 1) b1) (8 * q + 1 + 1) b2) (8 * q + 1 + 1 + 1) b3) (8 * q + 1 + 1 + 1 + 1) b4) (8 * q + 1 + 1 + 1 + 1 + 1) b5) (8 * q + 1 + 1 + 1 + 1 + 1 + 1) b6) (8 * q + 1 + 1 + 1 + 1 + 1 + 1 + 1) b7 = _
  rw [e0]
  simp only [Nat.add_assoc, Nat.reduceAdd]
  rw [xb_lane _ q 1 b1 h1 (by decide), g_self _ _ _ hq, List.set_set, xb_lane _ q 2 b2 h2 (by decide), g_self _ _ _ hq, List.set_set, xb_lane _ q 3 b3 h3 (by decide), g_self _ _ _ hq, List.set_set, xb_lane _ q 4 b4 h4 (by decide), g_self _ _ _ hq, List.set_set,
    xb_lane _ q 5 b5 h5 (by decide), g_self _ _ _ hq, List.set_set, xb_lane _ q 6 b6 h6 (by decide), g_self _ _ _ hq, List.set_set, xb_lane _ q 7 b7 h7 (by decide), g_self _ _ _ hq, List.set_set, w8_xor h0 h1 h2 h3 h4 h5 h6 h7]
  simp only [Nat.reduceMul, Nat.xor_assoc]
/-- m bytes of a state from p on -/
def gbs (l : List Nat) (p m : Nat) : List Nat := (List.range m).map (fun i => gb l (p + i))
theorem gbs_length (l : List Nat) (p m : Nat) : (gbs l p m).length = m := by simp [gbs]
theorem gbs_succ (l : List Nat) (p m : Nat) : gbs l p (m + 1) = gbs l p m ++ [gb l (p + m)] := by simp [gbs, List.range_succ]
theorem gbs_add (l : List Nat) (p m n : Nat) : gbs l p (m + n) = gbs l p m ++ gbs l (p + m) n := by
  induction n with
  | zero => simp [gbs]
  | succ n ih => rw [← Nat.add_assoc, gbs_succ, ih, gbs_succ, List.append_assoc, Nat.add_assoc]
theorem gb_lane (l : List Nat) (q i : Nat) (hi : i < 8) : gb l (8 * q + i) = g l q / 2 ^ (8 * i) % 256 := by
  unfold gb
  rw [show (8 * q + i) / 8 = q by omega, show (8 * q + i) % 8 = i by omega]
theorem gbs_lane (l : List Nat) (q x : Nat) (hx : g l q = x) : gbs l (8 * q) 8 = [x % 256, x / 2 ^ 8 % 256, x / 2 ^ 16 % 256, x / 2 ^ 24 % 256, x / 2 ^ 32 % 256, x / 2 ^ 40 % 256, x / 2 ^ 48 % 256, x / 2 ^ 56 % 256] := by
  have e : gbs l (8 * q) 8 = [gb l (8 * q + 0), gb l (8 * q + 1), gb l (8 * q + 2), gb l (8 * q + 3), gb l (8 * q + 4), gb l (8 * q + 5), gb l (8 * q + 6), gb l (8 * q + 7)] := rfl
  rw [e, gb_lane l q 0 (by decide), gb_lane l q 1 (by decide), gb_lane l q 2 (by decide), gb_lane l q 3 (by decide), gb_lane l q 4 (by decide), gb_lane l q 5 (by decide), gb_lane l q 6 (by decide), gb_lane l q 7 (by decide), hx]
  simp
theorem tn_same (P : List Nat → List Nat) (r : Nat) (l : List Nat) (p : Nat) (h : p < r) : tn P r ⟨l, p⟩ = ⟨l, p⟩ := by unfold tn; rw [if_neg (by show ¬ p = r; omega)]
theorem run_in (P : List Nat → List Nat) (r : Nat) (l : List Nat) (p m : Nat) (h : p + m ≤ r) : sk P r ⟨l, p⟩ m = ⟨l, p + m⟩ ∧ sq P r ⟨l, p⟩ m = gbs l p m := by
  induction m with
  | zero => exact ⟨rfl, by simp [sq, gbs]⟩
  | succ m ih =>
    obtain ⟨h1, h2⟩ := ih (by omega)
    refine ⟨?_, ?_⟩
    · rw [sk, h1, nx, tn_same P r l _ (by omega)]
      rfl
    · rw [sq_succ, h2, gbs_succ, sb, h1, tn_same P r l _ (by omega)]
theorem tn_tn (P : List Nat → List Nat) (r : Nat) (s : Sp) (hr : 0 < r) : tn P r (tn P r s) = tn P r s := by
  unfold tn
  split
  · rw [if_neg (by show ¬ 0 = r; omega)]
  · rfl
theorem sk_tn (P : List Nat → List Nat) (r : Nat) (s : Sp) (hr : 0 < r) (m : Nat) : sk P r s (m + 1) = sk P r (tn P r s) (m + 1) := by
  rw [Nat.add_comm, sk_add, sk_add]
  congr 1
  show nx P r s = nx P r (tn P r s)
  unfold nx
  rw [tn_tn P r s hr]
theorem sq_tn (P : List Nat → List Nat) (r : Nat) (s : Sp) (hr : 0 < r) (m : Nat) : sq P r s m = sq P r (tn P r s) m := by
  unfold sq
  congr 1
  funext i
  unfold sb
  cases i with
  | zero => show gb (tn P r s).l (tn P r s).at' = gb (tn P r (tn P r s)).l (tn P r (tn P r s)).at'; rw [tn_tn P r s hr]
  | succ i => rw [sk_tn P r s hr i]
/-- one round of the reading: m bytes within the rate -/
theorem round_is (P : List Nat → List Nat) (r : Nat) (s : Sp) (l : List Nat) (p m : Nat) (hr : 0 < r) (ht : tn P r s = ⟨l, p⟩) (hm : 0 < m) (h : p + m ≤ r) : sk P r s m = ⟨l, p + m⟩ ∧ sq P r s m = gbs l p m := by
  obtain ⟨m, rfl⟩ : ∃ k, m = k + 1 := ⟨m - 1, by omega⟩
  rw [sk_tn P r s hr m, sq_tn P r s hr, ht]
  exact run_in P r l p (m + 1) h
end Go.Proofs.YtpibnfpgokjnpaaDoor.spmx
