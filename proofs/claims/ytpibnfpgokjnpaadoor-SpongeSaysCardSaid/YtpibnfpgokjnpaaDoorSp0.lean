/-
  Plain facts on the sponge: bytes of a state, absorbing and squeezing byte by byte, over any permutation (no program is named here). Conditions: as each theorem says.
  Plain facts on the sponge for a program that goes by whole lanes: bytes mixed in a row, a lane of eight bytes, bytes read in a row (no program is named here). Conditions: as each theorem says.
  A sponge as cells; plain facts for the walks of layer 6 (no function of the reference or of the sponge is named here). Conditions: as each theorem says.
-/
import Derived.Test.YtpibnfpgokjnpaaDoorKc
import Derived.Test.YtpibnfpgokjnpaaDoorKb
import Derived.Test.YtpibnfpgokjnpaaDoorKp
import Derived.Test.YtpibnfpgokjnpaaDoorProg
namespace Go.Proofs.YtpibnfpgokjnpaaDoor.spgm
set_option linter.unusedVariables false
open Go.RowKit
open Go.Proofs.YtpibnfpgokjnpaaDoor.arr Go.Proofs.YtpibnfpgokjnpaaDoor.kecm

/-- how many bytes of its state a kind shows -/
def rate (k : Int) : Nat := if k = 1 then 168 else if k = 2 then 136 else if k = 3 then 136 else if k = 4 then 72 else 0
/-- what stands behind all that was absorbed -/
def mark (k : Int) : Nat := if k = 1 then 31 else if k = 2 then 31 else 6
theorem rate_le (k : Int) : rate k ≤ 168 := by unfold rate; (repeat' split) <;> decide
theorem mark_lt (k : Int) : mark k < 256 := by unfold mark; (repeat' split) <;> decide
/-- byte i of a state is turned by b -/
def xb (l : List Nat) (i b : Nat) : List Nat := l.set (i / 8) (g l (i / 8) ^^^ (b * 2 ^ (8 * (i % 8)) % 18446744073709551616))
/-- byte i of a state -/
def gb (l : List Nat) (i : Nat) : Nat := g l (i / 8) / 2 ^ (8 * (i % 8)) % 256
theorem gb_lt (l : List Nat) (i : Nat) : gb l i < 256 := Nat.mod_lt _ (by decide)
theorem g_set (l : List Nat) (i j x : Nat) : g (l.set i x) j = if j = i ∧ i < l.length then x else g l j := by
  unfold g
  rw [List.getD_eq_getElem?_getD, List.getD_eq_getElem?_getD, List.getElem?_set]
  by_cases h : i = j
  · subst h
    by_cases h2 : i < l.length
    · simp [h2]
    · rw [if_pos rfl, if_neg h2, if_neg (by omega), List.getElem?_eq_none (by omega)]
  · rw [if_neg h, if_neg (by omega)]
theorem xb_st {l : List Nat} (h : St l) (i b : Nat) : St (xb l i b) := ⟨by unfold xb; rw [List.length_set, h.len], fun j => by
  unfold xb
  rw [g_set]
  split
  · exact xor_lt _ _ (h.lt _) (Nat.mod_lt _ (by decide))
  · exact h.lt j⟩
/-- a state and how far it is filled, or read -/
structure Sp where
  l : List Nat
  at' : Nat
/-- one byte is absorbed -/
def ab (P : List Nat → List Nat) (r : Nat) (s : Sp) (b : Nat) : Sp := if s.at' + 1 = r then ⟨P (xb s.l s.at' b), 0⟩ else ⟨xb s.l s.at' b, s.at' + 1⟩
/-- bytes are absorbed -/
def abs (P : List Nat → List Nat) (r : Nat) (s : Sp) (bs : List Nat) : Sp := bs.foldl (ab P r) s
theorem abs_append (P : List Nat → List Nat) (r : Nat) (s : Sp) (x y : List Nat) : abs P r s (x ++ y) = abs P r (abs P r s x) y := List.foldl_append
theorem abs_snoc (P : List Nat → List Nat) (r : Nat) (s : Sp) (x : List Nat) (b : Nat) : abs P r s (x ++ [b]) = ab P r (abs P r s x) b := abs_append P r s x [b]
theorem ab_ok {P : List Nat → List Nat} (hP : ∀ l, St l → St (P l)) {r : Nat} {s : Sp} (h : St s.l) (ha : s.at' < r) (b : Nat) : St (ab P r s b).l ∧ (ab P r s b).at' < r := by
  unfold ab
  split
  · exact ⟨hP _ (xb_st h _ _), by show 0 < r; omega⟩
  · exact ⟨xb_st h _ _, by show s.at' + 1 < r; omega⟩
theorem abs_ok {P : List Nat → List Nat} (hP : ∀ l, St l → St (P l)) {r : Nat} (bs : List Nat) : ∀ {s : Sp}, St s.l → s.at' < r → St (abs P r s bs).l ∧ (abs P r s bs).at' < r := by
  induction bs with
  | nil => intro s h ha; exact ⟨h, ha⟩
  | cons b bs ih => intro s h ha; exact ih (s := ab P r s b) (ab_ok hP h ha b).1 (ab_ok hP h ha b).2
/-- the end of what was absorbed -/
def pad (r m : Nat) (s : Sp) : Sp := ⟨xb (xb s.l s.at' m) (r - 1) 128, r⟩
theorem pad_ok {r m : Nat} {s : Sp} (h : St s.l) : St (pad r m s).l ∧ (pad r m s).at' ≤ r := ⟨xb_st (xb_st h _ _) _ _, Nat.le_refl _⟩
/-- the state from which the next byte is read -/
def tn (P : List Nat → List Nat) (r : Nat) (s : Sp) : Sp := if s.at' = r then ⟨P s.l, 0⟩ else s
/-- .. behind it -/
def nx (P : List Nat → List Nat) (r : Nat) (s : Sp) : Sp := ⟨(tn P r s).l, (tn P r s).at' + 1⟩
/-- n bytes on -/
def sk (P : List Nat → List Nat) (r : Nat) (s : Sp) : Nat → Sp
  | 0 => s
  | n + 1 => nx P r (sk P r s n)
/-- byte i that is squeezed -/
def sb (P : List Nat → List Nat) (r : Nat) (s : Sp) (i : Nat) : Nat := gb (tn P r (sk P r s i)).l (tn P r (sk P r s i)).at'
def sq (P : List Nat → List Nat) (r : Nat) (s : Sp) (n : Nat) : List Nat := (List.range n).map (sb P r s)
theorem sq_length (P : List Nat → List Nat) (r : Nat) (s : Sp) (n : Nat) : (sq P r s n).length = n := by simp [sq]
theorem sq_lt (P : List Nat → List Nat) (r : Nat) (s : Sp) (n : Nat) : ∀ x ∈ sq P r s n, x < 256 := by
  intro x hx
  obtain ⟨i, -, rfl⟩ := List.mem_map.1 hx
  exact gb_lt _ _
theorem sk_add (P : List Nat → List Nat) (r : Nat) (s : Sp) (n m : Nat) : sk P r s (n + m) = sk P r (sk P r s n) m := by
  induction m with
  | zero => rfl
  | succ m ih => rw [← Nat.add_assoc, sk, sk, ih]
theorem sb_add (P : List Nat → List Nat) (r : Nat) (s : Sp) (n i : Nat) : sb P r s (n + i) = sb P r (sk P r s n) i := by unfold sb; rw [sk_add]
theorem sq_succ (P : List Nat → List Nat) (r : Nat) (s : Sp) (n : Nat) : sq P r s (n + 1) = sq P r s n ++ [sb P r s n] := by simp [sq, List.range_succ]
theorem sq_add (P : List Nat → List Nat) (r : Nat) (s : Sp) (n m : Nat) : sq P r s (n + m) = sq P r s n ++ sq P r (sk P r s n) m := by
  induction m with
  | zero => simp [sq]
  | succ m ih => rw [← Nat.add_assoc, sq_succ, ih, sq_succ, sb_add, List.append_assoc]
theorem tn_ok {P : List Nat → List Nat} (hP : ∀ l, St l → St (P l)) {r : Nat} {s : Sp} (hr : 0 < r) (h : St s.l) (ha : s.at' ≤ r) : St (tn P r s).l ∧ (tn P r s).at' < r := by
  unfold tn
  split
  · exact ⟨hP _ h, hr⟩
  · exact ⟨h, by omega⟩
theorem sk_ok {P : List Nat → List Nat} (hP : ∀ l, St l → St (P l)) {r : Nat} {s : Sp} (hr : 0 < r) (h : St s.l) (ha : s.at' ≤ r) (n : Nat) : St (sk P r s n).l ∧ (sk P r s n).at' ≤ r := by
  induction n with
  | zero => exact ⟨h, ha⟩
  | succ n ih =>
    have h1 := tn_ok hP hr ih.1 ih.2
    exact ⟨h1.1, h1.2⟩
/-- a byte that is written at its place -/
theorem byte_at (b k : Nat) (hb : b < 256) (hk : k < 8) : b * 2 ^ (8 * k) < 18446744073709551616 := by
  have h1 : b * 2 ^ (8 * k) < 256 * 2 ^ (8 * k) := Nat.mul_lt_mul_of_pos_right hb (Nat.two_pow_pos _)
  have h2 : (256 : Nat) * 2 ^ (8 * k) = 2 ^ (8 * (k + 1)) := by rw [show (256 : Nat) = 2 ^ 8 from rfl, ← Nat.pow_add]; congr 1; omega
  have h3 : (2 : Nat) ^ (8 * (k + 1)) ≤ 2 ^ 64 := Nat.pow_le_pow_right (by decide) (by omega)
  rw [h2] at h1
  exact Nat.lt_of_lt_of_le h1 h3
end Go.Proofs.YtpibnfpgokjnpaaDoor.spgm

namespace Go.Proofs.YtpibnfpgokjnpaaDoor.spmx
open Go.Proofs.YtpibnfpgokjnpaaDoor.arr Go.Proofs.YtpibnfpgokjnpaaDoor.kecm Go.Proofs.YtpibnfpgokjnpaaDoor.spgm

/-- bytes are mixed in from p on -/
def xbs (l : List Nat) (p : Nat) : List Nat → List Nat
  | [] => l
  | b :: bs => xbs (xb l p b) (p + 1) bs
theorem xbs_append (x y : List Nat) : ∀ (l : List Nat) (p : Nat), xbs l p (x ++ y) = xbs (xbs l p x) (p + x.length) y := by
  induction x with
  | nil => intro l p; rfl
  | cons b x ih =>
    intro l p
    show xbs (xb l p b) (p + 1) (x ++ y) = xbs (xbs (xb l p b) (p + 1) x) (p + (b :: x).length) y
    rw [ih, List.length_cons, show p + 1 + x.length = p + (x.length + 1) by omega]
theorem xbs_st (bs : List Nat) : ∀ {l : List Nat} (_ : St l) (p : Nat), St (xbs l p bs) := by
  induction bs with
  | nil => intro l h p; exact h
  | cons b bs ih => intro l h p; exact ih (xb_st h p b) (p + 1)
theorem abs_lt (P : List Nat → List Nat) (r : Nat) (bs : List Nat) : ∀ (l : List Nat) (p : Nat), p + bs.length < r → abs P r ⟨l, p⟩ bs = ⟨xbs l p bs, p + bs.length⟩ := by
  induction bs with
  | nil => intro l p _; rfl
  | cons b bs ih =>
    intro l p h
    rw [List.length_cons] at h
    show abs P r (ab P r ⟨l, p⟩ b) bs = _
    have e : ab P r ⟨l, p⟩ b = ⟨xb l p b, p + 1⟩ := by unfold ab; rw [if_neg (by show ¬ p + 1 = r; omega)]
    rw [e, ih _ _ (by omega)]
    show (⟨_, _⟩ : Sp) = ⟨xbs (xb l p b) (p + 1) bs, _⟩
    congr 1
    rw [List.length_cons]; omega
theorem abs_eq (P : List Nat → List Nat) (r : Nat) (bs : List Nat) (l : List Nat) (p : Nat) (h0 : bs ≠ []) (h : p + bs.length = r) : abs P r ⟨l, p⟩ bs = ⟨P (xbs l p bs), 0⟩ := by
  have e : bs = bs.dropLast ++ [bs.getLast h0] := (List.dropLast_concat_getLast h0).symm
  have hl : bs.dropLast.length + 1 = bs.length := by
    rw [List.length_dropLast]
    have : bs.length ≠ 0 := fun h => h0 (List.eq_nil_of_length_eq_zero h)
    omega
  rw [e, abs_append, abs_lt P r _ l p (by omega), xbs_append]
  show ab P r ⟨xbs l p bs.dropLast, p + bs.dropLast.length⟩ (bs.getLast h0) = _
  unfold ab
  rw [if_pos (by show p + bs.dropLast.length + 1 = r; omega)]
  rfl
theorem xbs_snoc (l : List Nat) (p : Nat) (x : List Nat) (b : Nat) : xbs l p (x ++ [b]) = xb (xbs l p x) (p + x.length) b := by rw [xbs_append]; rfl
/-- two words without a common bit -/
theorem or_xor (a b k : Nat) (h : a < 2 ^ k) : a ||| b * 2 ^ k = a ^^^ b * 2 ^ k := by
  apply Nat.eq_of_testBit_eq
  intro i
  rw [Nat.testBit_or, Nat.testBit_xor]
  by_cases hi : i < k
  · have : (b * 2 ^ k).testBit i = false := by rw [Nat.testBit_mul_two_pow]; simp; omega
    rw [this]; simp
  · have : a.testBit i = false := Nat.testBit_lt_two_pow (Nat.lt_of_lt_of_le h (Nat.pow_le_pow_right (by decide) (by omega)))
    rw [this]; simp
theorem or_lt (a b k j : Nat) (ha : a < 2 ^ k) (hb : b < 2 ^ j) : a ||| b * 2 ^ k < 2 ^ (k + j) := by
  refine Nat.or_lt_two_pow (Nat.lt_of_lt_of_le ha (Nat.pow_le_pow_right (by decide) (by omega))) ?_
  rw [Nat.add_comm k j, Nat.pow_add]
  exact Nat.mul_lt_mul_of_pos_right hb (Nat.two_pow_pos _)
/-- the lane of eight bytes -/
def w8 (b0 b1 b2 b3 b4 b5 b6 b7 : Nat) : Nat := b0 ||| b1 * 2 ^ 8 ||| b2 * 2 ^ 16 ||| b3 * 2 ^ 24 ||| b4 * 2 ^ 32 ||| b5 * 2 ^ 40 ||| b6 * 2 ^ 48 ||| b7 * 2 ^ 56
theorem w8_parts {b0 b1 b2 b3 b4 b5 b6 b7 : Nat} (h0 : b0 < 256) (h1 : b1 < 256) (h2 : b2 < 256) (h3 : b3 < 256) (h4 : b4 < 256) (h5 : b5 < 256) (h6 : b6 < 256) (h7 : b7 < 256) :
    (b0 ||| b1 * 2 ^ 8 < 2 ^ 16 ∧ b0 ||| b1 * 2 ^ 8 ||| b2 * 2 ^ 16 < 2 ^ 24 ∧ b0 ||| b1 * 2 ^ 8 ||| b2 * 2 ^ 16 ||| b3 * 2 ^ 24 < 2 ^ 32 ∧ b0 ||| b1 * 2 ^ 8 ||| b2 * 2 ^ 16 ||| b3 * 2 ^ 24 ||| b4 * 2 ^ 32 < 2 ^ 40 ∧
    b0 ||| b1 * 2 ^ 8 ||| b2 * 2 ^ 16 ||| b3 * 2 ^ 24 ||| b4 * 2 ^ 32 ||| b5 * 2 ^ 40 < 2 ^ 48 ∧ b0 ||| b1 * 2 ^ 8 ||| b2 * 2 ^ 16 ||| b3 * 2 ^ 24 ||| b4 * 2 ^ 32 ||| b5 * 2 ^ 40 ||| b6 * 2 ^ 48 < 2 ^ 56 ∧ w8 b0 b1 b2 b3 b4 b5 b6 b7 < 18446744073709551616) := by
  have k1 := or_lt b0 b1 8 8 h0 h1
  have k2 := or_lt _ b2 16 8 k1 h2
  have k3 := or_lt _ b3 24 8 k2 h3
  have k4 := or_lt _ b4 32 8 k3 h4
  have k5 := or_lt _ b5 40 8 k4 h5
  have k6 := or_lt _ b6 48 8 k5 h6
  have k7 := or_lt _ b7 56 8 k6 h7
  exact ⟨k1, k2, k3, k4, k5, k6, k7⟩
theorem w8_xor {b0 b1 b2 b3 b4 b5 b6 b7 : Nat} (h0 : b0 < 256) (h1 : b1 < 256) (h2 : b2 < 256) (h3 : b3 < 256) (h4 : b4 < 256) (h5 : b5 < 256) (h6 : b6 < 256) (h7 : b7 < 256) :
    w8 b0 b1 b2 b3 b4 b5 b6 b7 = b0 ^^^ b1 * 2 ^ 8 ^^^ b2 * 2 ^ 16 ^^^ b3 * 2 ^ 24 ^^^ b4 * 2 ^ 32 ^^^ b5 * 2 ^ 40 ^^^ b6 * 2 ^ 48 ^^^ b7 * 2 ^ 56 := by
  obtain ⟨k1, k2, k3, k4, k5, k6, k7⟩ := w8_parts h0 h1 h2 h3 h4 h5 h6 h7
  unfold w8
  rw [or_xor _ b7 56 k6, or_xor _ b6 48 k5, or_xor _ b5 40 k4, or_xor _ b4 32 k3, or_xor _ b3 24 k2, or_xor _ b2 16 k1, or_xor b0 b1 8 h0]
theorem xb_lane (l : List Nat) (q i b : Nat) (hb : b < 256) (hi : i < 8) : xb l (8 * q + i) b = l.set q (g l q ^^^ b * 2 ^ (8 * i)) := by
  unfold xb
  rw [show (8 * q + i) / 8 = q by omega, show (8 * q + i) % 8 = i by omega, Nat.mod_eq_of_lt (byte_at b i hb hi)]
theorem g_self (l : List Nat) (q x : Nat) (hq : q < l.length) : g (l.set q x) q = x := by rw [g_set, if_pos ⟨rfl, hq⟩]
theorem xbs_lane {l : List Nat} {q b0 b1 b2 b3 b4 b5 b6 b7 : Nat} (hq : q < l.length) (h0 : b0 < 256) (h1 : b1 < 256) (h2 : b2 < 256) (h3 : b3 < 256) (h4 : b4 < 256) (h5 : b5 < 256) (h6 : b6 < 256) (h7 : b7 < 256) :
    xbs l (8 * q) [b0, b1, b2, b3, b4, b5, b6, b7] = l.set q (g l q ^^^ w8 b0 b1 b2 b3 b4 b5 b6 b7) := by
  have e0 : xb l (8 * q) b0 = l.set q (g l q ^^^ b0) := by have := xb_lane l q 0 b0 h0 (by decide); simpa using this
  show xb (xb (xb (xb (xb (xb (xb (xb l (8 * q) b0) (8 * q + 1) b1) (8 * q + 1 + 1) b2) (8 * q + 1 + 1 + 1) b3) (8 * q + 1 + 1 + 1 + 1) b4) (8 * q + 1 + 1 + 1 + 1 + 1) b5) (8 * q + 1 + 1 + 1 + 1 + 1 + 1) b6) (8 * q + 1 + 1 + 1 + 1 + 1 + 1 + 1) b7 = _
  rw [e0]
  simp only [Nat.add_assoc, Nat.reduceAdd]
  rw [xb_lane _ q 1 b1 h1 (by decide), g_self _ _ _ hq, List.set_set, xb_lane _ q 2 b2 h2 (by decide), g_self _ _ _ hq, List.set_set, xb_lane _ q 3 b3 h3 (by decide), g_self _ _ _ hq, List.set_set, xb_lane _ q 4 b4 h4 (by decide), g_self _ _ _ hq, List.set_set,
    xb_lane _ q 5 b5 h5 (by decide), g_self _ _ _ hq, List.set_set, xb_lane _ q 6 b6 h6 (by decide), g_self _ _ _ hq, List.set_set, xb_lane _ q 7 b7 h7 (by decide), g_self _ _ _ hq, List.set_set, w8_xor h0 h1 h2 h3 h4 h5 h6 h7]
  simp only [Nat.reduceMul, Nat.xor_assoc]
/-- m bytes of a state from p on -/
def gbs (l : List Nat) (p m : Nat) : List Nat := (List.range m).map (fun i => gb l (p + i))
theorem gbs_length (l : List Nat) (p m : Nat) : (gbs l p m).length = m := by simp [gbs]
theorem gbs_succ (l : List Nat) (p m : Nat) : gbs l p (m + 1) = gbs l p m ++ [gb l (p + m)] := by simp [gbs, List.range_succ]
theorem gbs_add (l : List Nat) (p m n : Nat) : gbs l p (m + n) = gbs l p m ++ gbs l (p + m) n := by
  induction n with
  | zero => simp [gbs]
  | succ n ih => rw [← Nat.add_assoc, gbs_succ, ih, gbs_succ, List.append_assoc, Nat.add_assoc]
theorem gb_lane (l : List Nat) (q i : Nat) (hi : i < 8) : gb l (8 * q + i) = g l q / 2 ^ (8 * i) % 256 := by
  unfold gb
  rw [show (8 * q + i) / 8 = q by omega, show (8 * q + i) % 8 = i by omega]
theorem gbs_lane (l : List Nat) (q x : Nat) (hx : g l q = x) : gbs l (8 * q) 8 = [x % 256, x / 2 ^ 8 % 256, x / 2 ^ 16 % 256, x / 2 ^ 24 % 256, x / 2 ^ 32 % 256, x / 2 ^ 40 % 256, x / 2 ^ 48 % 256, x / 2 ^ 56 % 256] := by
  have e : gbs l (8 * q) 8 = [gb l (8 * q + 0), gb l (8 * q + 1), gb l (8 * q + 2), gb l (8 * q + 3), gb l (8 * q + 4), gb l (8 * q + 5), gb l (8 * q + 6), gb l (8 * q + 7)] := rfl
  rw [e, gb_lane l q 0 (by decide), gb_lane l q 1 (by decide), gb_lane l q 2 (by decide), gb_lane l q 3 (by decide), gb_lane l q 4 (by decide), gb_lane l q 5 (by decide), gb_lane l q 6 (by decide), gb_lane l q 7 (by decide), hx]
  simp
theorem tn_same (P : List Nat → List Nat) (r : Nat) (l : List Nat) (p : Nat) (h : p < r) : tn P r ⟨l, p⟩ = ⟨l, p⟩ := by unfold tn; rw [if_neg (by show ¬ p = r; omega)]
theorem rate_run (P : List Nat → List Nat) (r : Nat) (l : List Nat) (p m : Nat) (h : p + m ≤ r) : sk P r ⟨l, p⟩ m = ⟨l, p + m⟩ ∧ sq P r ⟨l, p⟩ m = gbs l p m := by
  induction m with
  | zero => exact ⟨rfl, by simp [sq, gbs]⟩
  | succ m ih =>
    obtain ⟨h1, h2⟩ := ih (by omega)
    refine ⟨?_, ?_⟩
    · rw [sk, h1, nx, tn_same P r l _ (by omega)]
      rfl
    · rw [sq_succ, h2, gbs_succ, sb, h1, tn_same P r l _ (by omega)]
theorem tn_tn (P : List Nat → List Nat) (r : Nat) (s : Sp) (hr : 0 < r) : tn P r (tn P r s) = tn P r s := by
  unfold tn
  split
  · rw [if_neg (by show ¬ 0 = r; omega)]
  · rfl
theorem sk_tn (P : List Nat → List Nat) (r : Nat) (s : Sp) (hr : 0 < r) (m : Nat) : sk P r s (m + 1) = sk P r (tn P r s) (m + 1) := by
  rw [Nat.add_comm, sk_add, sk_add]
  congr 1
  show nx P r s = nx P r (tn P r s)
  unfold nx
  rw [tn_tn P r s hr]
theorem sq_tn (P : List Nat → List Nat) (r : Nat) (s : Sp) (hr : 0 < r) (m : Nat) : sq P r s m = sq P r (tn P r s) m := by
  unfold sq
  congr 1
  funext i
  unfold sb
  cases i with
  | zero => show gb (tn P r s).l (tn P r s).at' = gb (tn P r (tn P r s)).l (tn P r (tn P r s)).at'; rw [tn_tn P r s hr]
  | succ i => rw [sk_tn P r s hr i]
/-- one round of the reading: m bytes within the rate -/
theorem round_is (P : List Nat → List Nat) (r : Nat) (s : Sp) (l : List Nat) (p m : Nat) (hr : 0 < r) (ht : tn P r s = ⟨l, p⟩) (hm : 0 < m) (h : p + m ≤ r) : sk P r s m = ⟨l, p + m⟩ ∧ sq P r s m = gbs l p m := by
  obtain ⟨m, rfl⟩ : ∃ k, m = k + 1 := ⟨m - 1, by omega⟩
  rw [sk_tn P r s hr m, sq_tn P r s hr, ht]
  exact rate_run P r l p (m + 1) h
end Go.Proofs.YtpibnfpgokjnpaaDoor.spmx

namespace Go.Proofs.YtpibnfpgokjnpaaDoor.rspa
open Go.RowKit
open Go.Proofs.YtpibnfpgokjnpaaDoor.arr Go.Proofs.YtpibnfpgokjnpaaDoor.mem Go.Proofs.YtpibnfpgokjnpaaDoor.kecm Go.Proofs.YtpibnfpgokjnpaaDoor.kecb Go.Proofs.YtpibnfpgokjnpaaDoor.spgm

/-- a sponge's 28 cells -/
def SC (k : Int) (l : List Nat) (a : Int) (o : Bool) : Array Value := (Value.int .i64 k :: ((LK .u64 l).toList ++ [Value.int .i64 a, Value.bool o])).toArray
theorem sc_size (k : Int) {l : List Nat} (a : Int) (o : Bool) (h : l.length = 25) : (SC k l a o).size = 28 := by simp [SC, LK, h]
theorem sc_kind (k : Int) (l : List Nat) (a : Int) (o : Bool) : (SC k l a o)[0]? = some (.int .i64 k) := by simp [SC]
theorem sc_lane (k : Int) {l : List Nat} (a : Int) (o : Bool) (h : l.length = 25) (i : Nat) (hi : i < 25) : (SC k l a o)[1 + i]? = some (.int .u64 ((g l i : Nat) : Int)) := by
  have h1 := lane_get h i hi
  rw [Nat.add_comm]
  simp only [SC, List.getElem?_toArray, List.getElem?_cons_succ]
  rw [List.getElem?_append_left (by simp [LK, h]; exact hi), Array.getElem?_toList]
  exact h1
theorem sc_at (k : Int) {l : List Nat} (a : Int) (o : Bool) (h : l.length = 25) : (SC k l a o)[26]? = some (.int .i64 a) := by
  simp only [SC, List.getElem?_toArray, List.getElem?_cons_succ]
  rw [List.getElem?_append_right (by simp [LK, h])]
  simp [LK, h]
theorem sc_out (k : Int) {l : List Nat} (a : Int) (o : Bool) (h : l.length = 25) : (SC k l a o)[27]? = some (.bool o) := by
  simp only [SC, List.getElem?_toArray, List.getElem?_cons_succ]
  rw [List.getElem?_append_right (by simp [LK, h])]
  simp [LK, h]
theorem sc_one (k : Int) (l : List Nat) (a : Int) (o : Bool) : (SC k l a o).all (·.oneCell') = true := by
  rw [Array.all_eq_true_iff_forall_mem]
  intro v hv
  simp only [SC, List.mem_toArray, List.mem_cons, List.mem_append, List.not_mem_nil, or_false] at hv
  rcases hv with rfl | h | rfl | rfl
  · rfl
  · exact (Array.all_eq_true_iff_forall_mem.1 (lk_one .u64 l)) v (by simpa using h)
  · rfl
  · rfl
theorem sc_setl (k : Int) {l : List Nat} (a : Int) (o : Bool) (h : l.length = 25) (i x : Nat) (hi : i < 25) : (SC k l a o).setIfInBounds (1 + i) (.int .u64 (x : Int)) = SC k (l.set i x) a o := by
  rw [Nat.add_comm]
  simp only [SC, List.setIfInBounds_toArray, List.set_cons_succ]
  rw [List.set_append_left _ _ (by simp [LK, h]; exact hi)]
  have e : (LK .u64 l).toList.set i (.int .u64 (x : Int)) = (LK .u64 (l.set i x)).toList := by rw [← lk_set]; simp
  rw [e]
theorem sc_seta (k : Int) {l : List Nat} (a b : Int) (o : Bool) (h : l.length = 25) : (SC k l a o).setIfInBounds 26 (.int .i64 b) = SC k l b o := by
  simp only [SC, List.setIfInBounds_toArray, List.set_cons_succ]
  rw [List.set_append_right _ _ (by simp [LK, h])]
  simp [LK, h]
theorem sc_seto (k : Int) {l : List Nat} (a : Int) (o p : Bool) (h : l.length = 25) : (SC k l a o).setIfInBounds 27 (.bool p) = SC k l a p := by
  simp only [SC, List.setIfInBounds_toArray, List.set_cons_succ]
  rw [List.set_append_right _ _ (by simp [LK, h])]
  simp [LK, h]
theorem sizeT : (Tryd.prog.info? 36).map (·.size) = some 465 := by kernel_rfl
theorem sizeS : (Tryd.prog.info? 25).map (·.size) = some 28 := by kernel_rfl

end Go.Proofs.YtpibnfpgokjnpaaDoor.rspa

namespace Go.Proofs.YtpibnfpgokjnpaaDoor.rspb
open Go.RowKit
open Go.Proofs.YtpibnfpgokjnpaaDoor.arr Go.Proofs.YtpibnfpgokjnpaaDoor.mem Go.Proofs.YtpibnfpgokjnpaaDoor.kecm Go.Proofs.YtpibnfpgokjnpaaDoor.kecb Go.Proofs.YtpibnfpgokjnpaaDoor.spgm Go.Proofs.YtpibnfpgokjnpaaDoor.rspa

/-- is the sponge valid? -/
def ok (k a : Int) (o : Bool) : Bool := decide (0 < rate k) && (decide (0 ≤ a) && (decide (a < (rate k : Int)) || (o && decide (a = (rate k : Int)))))
def okr (r : Nat) (a : Int) (o : Bool) : Bool := decide (0 < r) && (decide (0 ≤ a) && (decide (a < (r : Int)) || (o && decide (a = (r : Int)))))

end Go.Proofs.YtpibnfpgokjnpaaDoor.rspb

namespace Go.Proofs.YtpibnfpgokjnpaaDoor.rspc
open Go Go.RowKit
open Go.Proofs.YtpibnfpgokjnpaaDoor.arr Go.Proofs.YtpibnfpgokjnpaaDoor.mem Go.Proofs.YtpibnfpgokjnpaaDoor.kecm Go.Proofs.YtpibnfpgokjnpaaDoor.kecb Go.Proofs.YtpibnfpgokjnpaaDoor.spgm Go.Proofs.YtpibnfpgokjnpaaDoor.rspa Go.Proofs.YtpibnfpgokjnpaaDoor.kfun

theorem sp_list (X : List Value) : ∀ (vs : List Value) (a z : List Value), a.length = vs.length → sp (X ++ (a ++ z)).toArray X.length vs = (X ++ (vs ++ z)).toArray := by
  intro vs
  induction vs generalizing X with
  | nil => intro a z h; obtain rfl := List.eq_nil_of_length_eq_zero h; rfl
  | cons v vs ih =>
    intro a z h
    cases a with
    | nil => cases h
    | cons y a =>
      have e1 : ((X ++ (y :: a ++ z)).toArray).setIfInBounds X.length v = ((X ++ [v]) ++ (a ++ z)).toArray := by
        rw [List.setIfInBounds_toArray, List.set_append_right _ _ (Nat.le_refl _), Nat.sub_self]
        simp
      rw [sp, e1, show X.length + 1 = (X ++ [v]).length by simp, ih (X ++ [v]) a z (by simpa using h)]
      simp
theorem sp_sc (k : Int) {l l' : List Nat} (a : Int) (o : Bool) (h : l.length = 25) (h' : l'.length = 25) : sp (SC k l a o) 1 (LK .u64 l').toList = SC k l' a o :=
  sp_list [Value.int .i64 k] (LK .u64 l').toList (LK .u64 l).toList [Value.int .i64 a, Value.bool o] (by simp [LK, h, h'])
/-- the lanes are written as a whole -/
theorem wpList_putl {ops : Array Oper} {Q : Exit → Act → World → Prop} {rest : List Oper} {op : Oper} {ac : Act} {w0 w : World} {g : Nat} {t : TypeId} {k : Int} {l l' : List Nat} {a : Int} {o : Bool} (H : Away (At g (SC k l a o) t w0 w)) (hl : l.length = 25) (hl' : l'.length = 25)
    (hgd : op.guard = none) (x y : Operand) (ho : op.op = .store 23 x y) (hd : op.dst = none) (hx : ac.eval x = .pointer (some ⟨g, 1, none⟩)) (hy : ac.eval y = .agg (LK .u64 l'))
    (h : ∀ w', Away (At g (SC k l' a o) t w0 w') → wpList Tryd.prog ops Q rest ac w') : wpList Tryd.prog ops Q (op :: rest) ac w := by
  refine wpList_store_mid hgd _ x y ho g 1 (LK .u64 l') hx hy (fun j hj => ?_) (size25 hl') (lk_one _ _) ?_
  · rw [lk_size, hl'] at hj
    rw [H.out.cell, H.out.frozen, sc_lane k a o hl j hj]
    exact ⟨rfl, rfl⟩
  · rw [hd]
    refine h _ ⟨?_⟩
    have h1 : At g (sp (SC k l a o) 1 (LK .u64 l').toList) t w (w.setCells g 1 (LK .u64 l').toList) := At.set H.out.row H.out.lt (Below.refl _ _)
    rw [sp_sc k a o hl hl'] at h1
    exact H.out.trans h1
/-- .. and read -/
theorem lanes_at {w : World} {g : Nat} {t : TypeId} {k : Int} {l : List Nat} {a : Int} {o : Bool} (h : w.heap[g]? = some (.cells (SC k l a o) t (0, 0))) (hl : l.length = 25) : w.rangeAt g 1 (LK .u64 l).toList := fun j v hv => by
  rw [Array.getElem?_toList] at hv
  have hj : j < 25 := by
    by_cases hj : j < 25
    · exact hj
    · rw [Array.getElem?_eq_none (by rw [lk_size, hl]; omega)] at hv; cases hv
  rw [lane_get hl j hj] at hv
  rw [cell_of_row w g (1 + j) _ t (0, 0) h, sc_lane k a o hl j hj, hv]
theorem results_cell_tmp {P : Program} {fn : Func} {p u : Tmp} {ty : TypeId} (h : fn.results = #[.cell p ty, .tmp u]) (tmps : Array Value) (w : World) (g : Nat) (t : TypeId) (cs : Array Value) (fr : Nat × Nat) (d : TypeDesc)
    (hp : tmps.getD p undef = .pointer (some ⟨g, 0, none⟩)) (hg : w.heap[g]? = some (.cells cs t fr))
    (hu : P.underlying ty = some d) (hd : (match d with | .struct _ | .array _ _ => true | _ => false) = true) (hi : (P.info? ty).map (·.size) = some cs.size) (v : Value) (hv : tmps.getD u undef = v) :
    (results fn tmps).run P w = .ok (.tuple #[.agg cs, v]) w := by
  have hp' : tmps[p]?.getD undef = .pointer (some ⟨g, 0, none⟩) := by simpa using hp
  have hv' : tmps[u]?.getD undef = v := by simpa using hv
  simp [results, h, hp', hv', asAddr, run_loadVar_row w g t ty cs fr d hg hu hd hi]
theorem results_cell_tmp2 {P : Program} {fn : Func} {p u u2 : Tmp} {ty : TypeId} (h : fn.results = #[.cell p ty, .tmp u, .tmp u2]) (tmps : Array Value) (w : World) (g : Nat) (t : TypeId) (cs : Array Value) (fr : Nat × Nat) (d : TypeDesc)
    (hp : tmps.getD p undef = .pointer (some ⟨g, 0, none⟩)) (hg : w.heap[g]? = some (.cells cs t fr))
    (hu : P.underlying ty = some d) (hd : (match d with | .struct _ | .array _ _ => true | _ => false) = true) (hi : (P.info? ty).map (·.size) = some cs.size) (v v2 : Value) (hv : tmps.getD u undef = v) (hv2 : tmps.getD u2 undef = v2) :
    (results fn tmps).run P w = .ok (.tuple #[.agg cs, v, v2]) w := by
  have hp' : tmps[p]?.getD undef = .pointer (some ⟨g, 0, none⟩) := by simpa using hp
  have hv' : tmps[u]?.getD undef = v := by simpa using hv
  have hv2' : tmps[u2]?.getD undef = v2 := by simpa using hv2
  simp [results, h, hp', hv', hv2', asAddr, run_loadVar_row w g t ty cs fr d hg hu hd hi]
/-- a string's bytes as numbers -/
def bys (b : ByteArray) : List Nat := b.data.toList.map (·.toNat)
theorem bys_length (b : ByteArray) : (bys b).length = b.size := by unfold bys; rw [List.length_map]; rfl
theorem bys_lt (b : ByteArray) (i : Nat) : (bys b).getD i 0 < 256 := by
  by_cases h : i < b.size
  · have : ∀ x ∈ bys b, x < 256 := by
      intro x hx
      obtain ⟨u, -, rfl⟩ := List.mem_map.1 hx
      exact u.toNat_lt
    rw [List.getD_eq_getElem?_getD, List.getElem?_eq_getElem (by rw [bys_length]; exact h)]
    exact this _ (List.getElem_mem _)
  · rw [List.getD_eq_getElem?_getD, List.getElem?_eq_none (by rw [bys_length]; omega)]; decide
theorem byte_of (b : ByteArray) (i β : Nat) (hi : i < b.size) (hb : (bys b).getD i 0 = β) (w : World) : (Instr.index 9 (.string b) (.int .i64 (i : Int))).run Tryd.prog w = .ok (.int .u8 (β : Int)) w := by
  subst hb
  rw [run_index_string w 9 b .i64 (i : Int) Tryd.underlying9, dif_pos ⟨by omega, by omega⟩]
  have e : (bys b).getD i 0 = (b[i]'hi).toNat := by
    rw [List.getD_eq_getElem?_getD, List.getElem?_eq_getElem (by rw [bys_length]; exact hi)]
    simp only [bys, List.getElem_map, Option.getD_some]
    rfl
  rw [e]
  rfl
end Go.Proofs.YtpibnfpgokjnpaaDoor.rspc

namespace Go.Proofs.YtpibnfpgokjnpaaDoor.rspd
open Go.RowKit
open Go.Proofs.YtpibnfpgokjnpaaDoor.arr Go.Proofs.YtpibnfpgokjnpaaDoor.mem Go.Proofs.YtpibnfpgokjnpaaDoor.kecm Go.Proofs.YtpibnfpgokjnpaaDoor.kecb Go.Proofs.YtpibnfpgokjnpaaDoor.kstep Go.Proofs.YtpibnfpgokjnpaaDoor.kfun Go.Proofs.YtpibnfpgokjnpaaDoor.spgm Go.Proofs.YtpibnfpgokjnpaaDoor.rspa Go.Proofs.YtpibnfpgokjnpaaDoor.rspb Go.Proofs.YtpibnfpgokjnpaaDoor.rspc

theorem zs_is : (#[.int .i64 0, .int .u64 0, .int .u64 0, .int .u64 0, .int .u64 0, .int .u64 0, .int .u64 0, .int .u64 0, .int .u64 0, .int .u64 0, .int .u64 0, .int .u64 0, .int .u64 0, .int .u64 0, .int .u64 0, .int .u64 0, .int .u64 0, .int .u64 0, .int .u64 0, .int .u64 0, .int .u64 0, .int .u64 0, .int .u64 0, .int .u64 0, .int .u64 0, .int .u64 0, .int .i64 0, .bool false] : Array Value) = SC 0 Z 0 false := rfl
theorem sc_same (k k' : Int) {l l' : List Nat} (a a' : Int) (o o' : Bool) (h : l.length = 25) (h' : l'.length = 25) : (SC k l a o).size = (SC k' l' a' o').size := by rw [sc_size k a o h, sc_size k' a' o' h']
theorem sc_info (k : Int) {l : List Nat} (a : Int) (o : Bool) (h : l.length = 25) : (Tryd.prog.info? 25).map (·.size) = some (SC k l a o).size := by rw [sc_size k a o h]; exact sizeS
/-- the permutation by tables -/
def PP (ts rs : List Nat) (l : List Nat) : List Nat := permL (fun i => ts.getD i 0) (fun i => rs.getD i 0) l 24
theorem pp_st {ts rs : List Nat} (hr : ∀ i, rs.getD i 0 < 18446744073709551616) {l : List Nat} (h : St l) : St (PP ts rs l) := permL_st _ _ hr h 24

/-- the state behind i bytes -/
def sa (ts rs : List Nat) (r : Nat) (l : List Nat) (a : Nat) (bs : List Nat) (i : Nat) : Sp := abs (PP ts rs) r ⟨l, a⟩ (bs.take i)
theorem sa_next (ts rs : List Nat) (r : Nat) (l : List Nat) (a : Nat) (bs : List Nat) (i β : Nat) (hi : i < bs.length) (hb : bs.getD i 0 = β) : sa ts rs r l a bs (i + 1) = ab (PP ts rs) r (sa ts rs r l a bs i) β := by
  unfold sa
  rw [List.take_add_one, List.getElem?_eq_getElem hi]
  have e : bs[i] = β := by rw [← hb, List.getD_eq_getElem?_getD, List.getElem?_eq_getElem hi]; rfl
  rw [e]
  exact abs_snoc _ _ _ _ _
theorem sa_ok {ts rs : List Nat} (hr : ∀ i, rs.getD i 0 < 18446744073709551616) {r : Nat} {l : List Nat} {a : Nat} (h : St l) (ha : a < r) (bs : List Nat) (i : Nat) : St (sa ts rs r l a bs i).l ∧ (sa ts rs r l a bs i).at' < r := abs_ok (fun _ h => pp_st hr h) _ h ha
theorem ok_lt (k : Int) (a : Nat) (h : ok k (a : Int) false = true) : a < rate k := by
  unfold ok at h
  generalize rate k = r at h
  by_cases h2 : (a : Int) < (r : Int)
  · omega
  · rw [decide_eq_false h2] at h
    simp at h
theorem shl_is (β c : Nat) : ((β : Int) * 2 ^ c % 18446744073709551616) = ((β * 2 ^ c % 18446744073709551616 : Nat) : Int) := rols.castm β c 18446744073709551616
end Go.Proofs.YtpibnfpgokjnpaaDoor.rspd

namespace Go.Proofs.YtpibnfpgokjnpaaDoor.rspe
open Go.RowKit
open Go.Proofs.YtpibnfpgokjnpaaDoor.arr Go.Proofs.YtpibnfpgokjnpaaDoor.mem Go.Proofs.YtpibnfpgokjnpaaDoor.kecm Go.Proofs.YtpibnfpgokjnpaaDoor.kecb Go.Proofs.YtpibnfpgokjnpaaDoor.kstep Go.Proofs.YtpibnfpgokjnpaaDoor.kfun Go.Proofs.YtpibnfpgokjnpaaDoor.spgm Go.Proofs.YtpibnfpgokjnpaaDoor.rspa Go.Proofs.YtpibnfpgokjnpaaDoor.rspb Go.Proofs.YtpibnfpgokjnpaaDoor.rspc Go.Proofs.YtpibnfpgokjnpaaDoor.rspd

theorem zk_is (k : Int) : (#[.int .i64 k, .int .u64 0, .int .u64 0, .int .u64 0, .int .u64 0, .int .u64 0, .int .u64 0, .int .u64 0, .int .u64 0, .int .u64 0, .int .u64 0, .int .u64 0, .int .u64 0, .int .u64 0, .int .u64 0, .int .u64 0, .int .u64 0, .int .u64 0, .int .u64 0, .int .u64 0, .int .u64 0, .int .u64 0, .int .u64 0, .int .u64 0, .int .u64 0, .int .u64 0, .int .i64 0, .bool false] : Array Value) = SC k Z 0 false := rfl
theorem wpList_buildC {P : Program} {ops : Array Oper} {rest : List Oper} {o : Oper} {a : Act} {w : World} {Q : Exit → Act → World → Prop} (hg : o.guard = none) (t : TypeId) (parts : Array (Nat × Operand)) (ho : o.op = .build t parts)
    (C : Array Value) (hC : P.built t (parts.map fun (i, x) => (i, a.eval x)).toList = some C) (h : wpList P ops Q rest (a.put o.dst (.agg C)) w) : wpList P ops Q (o :: rest) a w :=
  wpList_build hg t _ ho (by rw [hC]; rfl) (by rw [hC]; exact h)

end Go.Proofs.YtpibnfpgokjnpaaDoor.rspe
