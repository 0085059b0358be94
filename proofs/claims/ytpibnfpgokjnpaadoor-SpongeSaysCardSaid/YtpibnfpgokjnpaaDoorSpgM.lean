/-
  Plain facts on the sponge: bytes of a state, absorbing and squeezing byte by byte, over any permutation (no program is named here). Conditions: as each theorem says.
-/
import Derived.Test.YtpibnfpgokjnpaaDoorKc
namespace Go.Proofs.YtpibnfpgokjnpaaDoor.spgm
set_option linter.unusedVariables false
open Go.RowKit
open Go.Proofs.YtpibnfpgokjnpaaDoor.arr Go.Proofs.YtpibnfpgokjnpaaDoor.kecm

/-- how many bytes of its state a kind shows -/
def rate (k : Int) : Nat := if k = 1 then 168 else if k = 2 then 136 else if k = 3 then 136 else if k = 4 then 72 else 0
/-- what stands behind all that was absorbed -/
def mark (k : Int) : Nat := if k = 1 then 31 else if k = 2 then 31 else 6
theorem rate_le (k : Int) : rate k ≤ 168 := by unfold rate; (repeat' split) <;> decide
theorem mark_lt (k : Int) : mark k < 256 := by unfold mark; (repeat' split) <;> decide
/-- byte i of a state is turned by b -/
def xb (l : List Nat) (i b : Nat) : List Nat := l.set (i / 8) (g l (i / 8) ^^^ (b * 2 ^ (8 * (i % 8)) % 18446744073709551616))
/-- byte i of a state -/
def gb (l : List Nat) (i : Nat) : Nat := g l (i / 8) / 2 ^ (8 * (i % 8)) % 256
theorem gb_lt (l : List Nat) (i : Nat) : gb l i < 256 := Nat.mod_lt _ (by decide)
theorem g_set (l : List Nat) (i j x : Nat) : g (l.set i x) j = if j = i ∧ i < l.length then x else g l j := by
  unfold g
  rw [List.getD_eq_getElem?_getD, List.getD_eq_getElem?_getD, List.getElem?_set]
  by_cases h : i = j
  · subst h
    by_cases h2 : i < l.length
    · simp [h2]
    · rw [if_pos rfl, if_neg h2, if_neg (by omega), List.getElem?_eq_none (by omega)]
  · rw [if_neg h, if_neg (by omega)]
theorem xb_st {l : List Nat} (h : St l) (i b : Nat) : St (xb l i b) := ⟨by unfold xb; rw [List.length_set, h.len], fun j => by
  unfold xb
  rw [g_set]
  split
  · exact xor_lt _ _ (h.lt _) (Nat.mod_lt _ (by decide))
  · exact h.lt j⟩
/-- a state and how far it is filled, or read -/
structure Sp where
  l : List Nat
  at' : Nat
/-- one byte is absorbed -/
def ab (P : List Nat → List Nat) (r : Nat) (s : Sp) (b : Nat) : Sp := if s.at' + 1 = r then ⟨P (xb s.l s.at' b), 0⟩ else ⟨xb s.l s.at' b, s.at' + 1⟩
/-- bytes are absorbed -/
def abs (P : List Nat → List Nat) (r : Nat) (s : Sp) (bs : List Nat) : Sp := bs.foldl (ab P r) s
theorem abs_append (P : List Nat → List Nat) (r : Nat) (s : Sp) (x y : List Nat) : abs P r s (x ++ y) = abs P r (abs P r s x) y := List.foldl_append
theorem abs_snoc (P : List Nat → List Nat) (r : Nat) (s : Sp) (x : List Nat) (b : Nat) : abs P r s (x ++ [b]) = ab P r (abs P r s x) b := abs_append P r s x [b]
theorem ab_ok {P : List Nat → List Nat} (hP : ∀ l, St l → St (P l)) {r : Nat} {s : Sp} (h : St s.l) (ha : s.at' < r) (b : Nat) : St (ab P r s b).l ∧ (ab P r s b).at' < r := by
  unfold ab
  split
  · exact ⟨hP _ (xb_st h _ _), by show 0 < r; omega⟩
  · exact ⟨xb_st h _ _, by show s.at' + 1 < r; omega⟩
theorem abs_ok {P : List Nat → List Nat} (hP : ∀ l, St l → St (P l)) {r : Nat} (bs : List Nat) : ∀ {s : Sp}, St s.l → s.at' < r → St (abs P r s bs).l ∧ (abs P r s bs).at' < r := by
  induction bs with
  | nil => intro s h ha; exact ⟨h, ha⟩
  | cons b bs ih => intro s h ha; exact ih (s := ab P r s b) (ab_ok hP h ha b).1 (ab_ok hP h ha b).2
/-- the end of what was absorbed -/
def pad (r m : Nat) (s : Sp) : Sp := ⟨xb (xb s.l s.at' m) (r - 1) 128, r⟩
theorem pad_ok {r m : Nat} {s : Sp} (h : St s.l) : St (pad r m s).l ∧ (pad r m s).at' ≤ r := ⟨xb_st (xb_st h _ _) _ _, Nat.le_refl _⟩
/-- the state from which the next byte is read -/
def tn (P : List Nat → List Nat) (r : Nat) (s : Sp) : Sp := if s.at' = r then ⟨P s.l, 0⟩ else s
/-- .. behind it -/
def nx (P : List Nat → List Nat) (r : Nat) (s : Sp) : Sp := ⟨(tn P r s).l, (tn P r s).at' + 1⟩
/-- n bytes on -/
def sk (P : List Nat → List Nat) (r : Nat) (s : Sp) : Nat → Sp
  | 0 => s
  | n + 1 => nx P r (sk P r s n)
/-- byte i that is squeezed -/
def sb (P : List Nat → List Nat) (r : Nat) (s : Sp) (i : Nat) : Nat := gb (tn P r (sk P r s i)).l (tn P r (sk P r s i)).at'
def sq (P : List Nat → List Nat) (r : Nat) (s : Sp) (n : Nat) : List Nat := (List.range n).map (sb P r s)
theorem sq_length (P : List Nat → List Nat) (r : Nat) (s : Sp) (n : Nat) : (sq P r s n).length = n := by simp [sq]
theorem sq_lt (P : List Nat → List Nat) (r : Nat) (s : Sp) (n : Nat) : ∀ x ∈ sq P r s n, x < 256 := by
  intro x hx
  obtain ⟨i, -, rfl⟩ := List.mem_map.1 hx
  exact gb_lt _ _
theorem sk_add (P : List Nat → List Nat) (r : Nat) (s : Sp) (n m : Nat) : sk P r s (n + m) = sk P r (sk P r s n) m := by
  induction m with
  | zero => rfl
  | succ m ih => rw [← Nat.add_assoc, sk, sk, ih]
theorem sb_add (P : List Nat → List Nat) (r : Nat) (s : Sp) (n i : Nat) : sb P r s (n + i) = sb P r (sk P r s n) i := by unfold sb; rw [sk_add]
theorem sq_succ (P : List Nat → List Nat) (r : Nat) (s : Sp) (n : Nat) : sq P r s (n + 1) = sq P r s n ++ [sb P r s n] := by simp [sq, List.range_succ]
theorem sq_add (P : List Nat → List Nat) (r : Nat) (s : Sp) (n m : Nat) : sq P r s (n + m) = sq P r s n ++ sq P r (sk P r s n) m := by
  induction m with
  | zero => simp [sq]
  | succ m ih => rw [← Nat.add_assoc, sq_succ, ih, sq_succ, sb_add, List.append_assoc]
theorem tn_ok {P : List Nat → List Nat} (hP : ∀ l, St l → St (P l)) {r : Nat} {s : Sp} (hr : 0 < r) (h : St s.l) (ha : s.at' ≤ r) : St (tn P r s).l ∧ (tn P r s).at' < r := by
  unfold tn
  split
  · exact ⟨hP _ h, hr⟩
  · exact ⟨h, by omega⟩
theorem sk_ok {P : List Nat → List Nat} (hP : ∀ l, St l → St (P l)) {r : Nat} {s : Sp} (hr : 0 < r) (h : St s.l) (ha : s.at' ≤ r) (n : Nat) : St (sk P r s n).l ∧ (sk P r s n).at' ≤ r := by
  induction n with
  | zero => exact ⟨h, ha⟩
  | succ n ih =>
    have h1 := tn_ok hP hr ih.1 ih.2
    exact ⟨h1.1, h1.2⟩
/-- a byte that is written at its place -/
theorem byte_at (b k : Nat) (hb : b < 256) (hk : k < 8) : b * 2 ^ (8 * k) < 18446744073709551616 := by
  have h1 : b * 2 ^ (8 * k) < 256 * 2 ^ (8 * k) := Nat.mul_lt_mul_of_pos_right hb (Nat.two_pow_pos _)
  have h2 : (256 : Nat) * 2 ^ (8 * k) = 2 ^ (8 * (k + 1)) := by rw [show (256 : Nat) = 2 ^ 8 from rfl, ← Nat.pow_add]; congr 1; omega
  have h3 : (2 : Nat) ^ (8 * (k + 1)) ≤ 2 ^ 64 := Nat.pow_le_pow_right (by decide) (by omega)
  rw [h2] at h1
  exact Nat.lt_of_lt_of_le h1 h3
end Go.Proofs.YtpibnfpgokjnpaaDoor.spgm
