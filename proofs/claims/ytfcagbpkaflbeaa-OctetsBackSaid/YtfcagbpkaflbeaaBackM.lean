/-
  Plain facts for the statement OctetsBack: what Int and Text write is what ReadInt and ReadText read, wherever it stands. No program is named. Conditions: as each theorem says.
-/
import Derived.Test.YtfcagbpkaflbeaaBits
namespace Go.Proofs.Ytfcagbpkaflbeaa.backm
open Go
open Go.Proofs.Ytfcagbpkaflbeaa.oct Go.Proofs.Ytfcagbpkaflbeaa.bits8

theorem rd_core (A R : List UInt8) (m : Nat) (hm : m ≤ 1125899906842624) :
    rdInt (A ++ (UInt8.ofNat (wd m) :: fixL m (wd m)) ++ R) (A.length : Int) = ((m : Int), ((A.length + 1 + wd m : Nat) : Int), 0) := by
  have hw := wd_le m
  have hlt := wd_lt m hm
  have hl : (A ++ (UInt8.ofNat (wd m) :: fixL m (wd m)) ++ R).length = A.length + 1 + wd m + R.length := by
    simp only [List.length_append, List.length_cons, fixL_length]; omega
  have hc : ((A ++ (UInt8.ofNat (wd m) :: fixL m (wd m)) ++ R)[A.length]?.getD 0).toNat = wd m := by
    rw [List.append_assoc, List.getElem?_append_right (by omega)]
    simp
    omega
  have hd : (A ++ (UInt8.ofNat (wd m) :: fixL m (wd m)) ++ R).drop (A.length + 1) = fixL m (wd m) ++ R := by
    rw [List.append_assoc, List.drop_append, List.drop_eq_nil_of_le (by omega)]
    simp
  have ht : ((A ++ (UInt8.ofNat (wd m) :: fixL m (wd m)) ++ R).drop (A.length + 1)).take (wd m) = fixL m (wd m) := by
    rw [hd, List.take_append, fixL_length, Nat.sub_self, List.take_zero, List.append_nil]
    exact List.take_of_length_le (by rw [fixL_length]; omega)
  have hwo : wo (fixL m (wd m)) = m := by rw [wo_fixL, Nat.mod_eq_of_lt hlt]
  have hz : 0 < wd m → ((A ++ (UInt8.ofNat (wd m) :: fixL m (wd m)) ++ R)[A.length + 1]?.getD 0).toNat ≠ 0 := by
    intro h0
    have e : (A ++ (UInt8.ofNat (wd m) :: fixL m (wd m)) ++ R)[A.length + 1]? = (fixL m (wd m) ++ R)[0]? := by
      rw [← hd, List.getElem?_drop]
    rw [e, List.getElem?_append_left (by rw [fixL_length]; exact h0), fixL_get m (wd m) 0 h0]
    simp only [Option.getD_some]
    rw [byteAt_toNat, Nat.sub_zero]
    have h1 : m ≠ 0 := by rintro rfl; simp [wd_zero] at h0
    have h2 := wd_ge m h1
    have hp : 0 < 256 ^ (wd m - 1) := Nat.pow_pos (by omega)
    have h3 : 1 ≤ m / 256 ^ (wd m - 1) := (Nat.le_div_iff_mul_le hp).2 (by omega)
    have h4 : m / 256 ^ (wd m - 1) < 256 := by
      rw [Nat.div_lt_iff_lt_mul hp, Nat.mul_comm, ← Nat.pow_succ]
      rw [show (wd m - 1).succ = wd m from by omega]
      exact hlt
    omega
  rw [rdInt_good _ A.length (wd m) (by omega) hc hw (by omega) hz (by rw [ht, hwo]; exact hm), ht, hwo]
  rfl
theorem text_core (A t R : List UInt8) (most : Int) (ht : t.length ≤ 1125899906842624) (hm : (t.length : Int) ≤ most) :
    rdText (A ++ ((UInt8.ofNat (wd t.length) :: fixL t.length (wd t.length)) ++ t) ++ R) (A.length : Int) most = (t, ((A.length + 1 + wd t.length + t.length : Nat) : Int), 0) := by
  have e : A ++ ((UInt8.ofNat (wd t.length) :: fixL t.length (wd t.length)) ++ t) ++ R = A ++ (UInt8.ofNat (wd t.length) :: fixL t.length (wd t.length)) ++ (t ++ R) := by
    simp only [List.append_assoc]
  rw [e]
  have h := rd_core A (t ++ R) t.length ht
  have hl : (A ++ (UInt8.ofNat (wd t.length) :: fixL t.length (wd t.length)) ++ (t ++ R)).length = A.length + 1 + wd t.length + t.length + R.length := by
    simp only [List.length_append, List.length_cons, fixL_length]; omega
  rw [rdText, h, if_pos rfl, if_neg (by simp only; omega), if_neg (by simp only; omega)]
  simp only [Int.toNat_natCast]
  refine Prod.ext ?_ (Prod.ext ?_ rfl)
  · simp only
    have hd : (A ++ (UInt8.ofNat (wd t.length) :: fixL t.length (wd t.length)) ++ (t ++ R)).drop (A.length + 1 + wd t.length) = t ++ R := by
      rw [List.drop_append, List.drop_eq_nil_of_le (by simp only [List.length_append, List.length_cons, fixL_length]; omega)]
      simp [fixL_length, Nat.add_assoc, Nat.add_comm]
    rw [hd]
    simp
  · simp only
    omega

/-- the last k bytes' number, as a mask takes it -/
theorem and_low (u k : Nat) (hu : u < 18446744073709551616) (hk : k ≤ 7) : bits .and .u64 (u : Int) (((256 ^ k : Nat) : Int) - 1) = ((u % 256 ^ k : Nat) : Int) := by
  have hp : 0 < 256 ^ k := Nat.pow_pos (by omega)
  have hle : 256 ^ k ≤ 256 ^ 7 := Nat.pow_le_pow_right (by omega) hk
  have e : ((256 ^ k : Nat) : Int) - 1 = ((256 ^ k - 1 : Nat) : Int) := by omega
  rw [e, u64_and_nat u (256 ^ k - 1) hu (by omega)]
  congr 1
  have h2 : 256 ^ k = 2 ^ (8 * k) := by rw [show (256 : Nat) = 2 ^ 8 from rfl, ← Nat.pow_mul]
  rw [h2, Nat.and_two_pow_sub_one_eq_mod]
theorem shl_one (k : Nat) (yk : IntKind) (hk : k ≤ 7) : Op.shift .shl .u64 1 yk ((8 * k : Nat) : Int) = pure (.int .u64 ((256 ^ k : Nat) : Int)) := by
  have hle : 256 ^ k ≤ 256 ^ 7 := Nat.pow_le_pow_right (by omega) hk
  unfold Op.shift
  rw [if_neg (by omega), Int.toNat_natCast]
  have hm : min (8 * k) IntKind.u64.bits = 8 * k := Nat.min_eq_left (by show 8 * k ≤ 64; omega)
  rw [hm]
  show pure (Value.int .u64 (IntKind.u64.wrap (1 * 2 ^ (8 * k)))) = _
  have h2 : (256 : Nat) ^ k = 2 ^ (8 * k) := by rw [show (256 : Nat) = 2 ^ 8 from rfl, ← Nat.pow_mul]
  have e : (1 : Int) * 2 ^ (8 * k) = ((256 ^ k : Nat) : Int) := by rw [h2]; norm_cast; simp
  rw [e, wrap_nat, Nat.mod_eq_of_lt (by omega)]
theorem fix_low (u k : Nat) (hk : k ≤ 7) : woU (fixL u k) = u % 256 ^ k := by
  rw [woU_small _ (by rw [fixL_length]; exact hk), wo_fixL]
theorem join3 (a b : ByteArray) (x : List UInt8) : (a ++ ⟨x.toArray⟩ ++ b).data.toList = a.data.toList ++ x ++ b.data.toList := by
  simp
end Go.Proofs.Ytfcagbpkaflbeaa.backm
