/-
  Plain facts on int words: an or of a byte behind a shifted number, an and with a mask, powers of two, bits (no program is named here). Conditions: as each theorem says.
-/
import Derived.Test.YthggakbomlgkhaaArr
import Derived.Laws.BitsAllLaws
namespace Go.Proofs.Ythggakbomlgkhaa.adq
open Go Go.RowKit

theorem or_i64 (a b : Nat) (ha : a < 9223372036854775808) (hb : b < 9223372036854775808) : bits .or .i64 (a : Int) (b : Int) = ((a ||| b : Nat) : Int) := by
  have h := Nat.or_lt_two_pow (n := 63) ha hb
  show IntKind.i64.wrap ((BitVec.ofInt 64 (a : Int) ||| BitVec.ofInt 64 (b : Int)).toNat : Int) = _
  rw [BitVec.ofInt_natCast, BitVec.ofInt_natCast, BitVec.toNat_or, BitVec.toNat_ofNat, BitVec.toNat_ofNat, Nat.mod_eq_of_lt (by omega), Nat.mod_eq_of_lt (by omega), IntKind.wrap_i64]
  omega
theorem and_i64 (a b : Nat) (ha : a < 9223372036854775808) (hb : b < 9223372036854775808) : bits .and .i64 (a : Int) (b : Int) = ((a &&& b : Nat) : Int) := by
  have h : a &&& b ≤ a := Nat.and_le_left
  show IntKind.i64.wrap ((BitVec.ofInt 64 (a : Int) &&& BitVec.ofInt 64 (b : Int)).toNat : Int) = _
  rw [BitVec.ofInt_natCast, BitVec.ofInt_natCast, BitVec.toNat_and, BitVec.toNat_ofNat, BitVec.toNat_ofNat, Nat.mod_eq_of_lt (by omega), Nat.mod_eq_of_lt (by omega), IntKind.wrap_i64]
  omega
theorem or_byte (x b : Nat) (hx : x < 36028797018963968) (hb : b < 256) : bits .or .i64 ((x : Int) * 256) (b : Int) = ((x * 256 + b : Nat) : Int) := by
  have e : (x : Int) * 256 = ((x * 256 : Nat) : Int) := by omega
  rw [e, or_i64 _ _ (by omega) (by omega)]
  have h := Nat.shiftLeft_add_eq_or_of_lt (i := 8) (b := b) (by omega) x
  rw [Nat.shiftLeft_eq, show (2 : Nat) ^ 8 = 256 from rfl] at h
  rw [← h]
theorem and_mask (x c : Nat) (hx : x < 9223372036854775808) (hc : c ≤ 62) : bits .and .i64 (x : Int) ((2 : Int) ^ c - 1) = ((x % 2 ^ c : Nat) : Int) := by
  have h1 : 2 ^ c ≤ 2 ^ 62 := Nat.pow_le_pow_right (by decide) hc
  have h0 : 0 < 2 ^ c := Nat.pow_pos (by decide)
  have e : (2 : Int) ^ c - 1 = ((2 ^ c - 1 : Nat) : Int) := by
    have : ((2 ^ c : Nat) : Int) = (2 : Int) ^ c := by norm_cast
    omega
  rw [e, and_i64 _ _ hx (by omega), Nat.and_two_pow_sub_one_eq_mod]
theorem pow_wrap (c : Nat) (hc : c ≤ 62) : IntKind.i64.wrap ((2 : Int) ^ c) = (2 : Int) ^ c := by
  have h1 : 2 ^ c ≤ 2 ^ 62 := Nat.pow_le_pow_right (by decide) hc
  have e : ((2 ^ c : Nat) : Int) = (2 : Int) ^ c := by norm_cast
  rw [← e]
  generalize 2 ^ c = z at h1
  rw [IntKind.wrap_i64]
  omega
theorem mask_wrap (c : Nat) (hc : c ≤ 62) : IntKind.i64.wrap ((2 : Int) ^ c - 1) = (2 : Int) ^ c - 1 := by
  have h1 : 2 ^ c ≤ 2 ^ 62 := Nat.pow_le_pow_right (by decide) hc
  have h0 : 0 < 2 ^ c := Nat.pow_pos (by decide)
  have e : ((2 ^ c : Nat) : Int) = (2 : Int) ^ c := by norm_cast
  rw [← e]
  generalize 2 ^ c = z at h1 h0
  rw [IntKind.wrap_i64]
  omega
theorem mask64 (c : Nat) (hc : c ≤ 62) : wrap64 ((2 : Int) ^ c - 1) = (2 : Int) ^ c - 1 := by
  have h := mask_wrap c hc
  rw [IntKind.wrap_i64] at h
  unfold wrap64
  omega
theorem div_pow (x c : Nat) : (x : Int) / (2 : Int) ^ c = ((x / 2 ^ c : Nat) : Int) := by norm_cast
theorem and_one (x : Nat) (hx : x < 9223372036854775808) : bits .and .i64 (x : Int) 1 = ((x % 2 : Nat) : Int) := by
  have h := and_mask x 1 hx (by decide)
  simpa using h
theorem and_u8 (y : Nat) (h : y < 256) : bits .and .u8 (y : Int) 1 = ((y % 2 : Nat) : Int) := by
  show IntKind.u8.wrap ((BitVec.ofInt 8 (y : Int) &&& BitVec.ofInt 8 1).toNat : Int) = _
  rw [show (1 : Int) = ((1 : Nat) : Int) from rfl, BitVec.ofInt_natCast, BitVec.ofInt_natCast, BitVec.toNat_and, BitVec.toNat_ofNat, BitVec.toNat_ofNat, Nat.mod_eq_of_lt (by omega), Nat.mod_eq_of_lt (by decide), Nat.and_one_is_mod, IntKind.wrap_u8]
  omega
end Go.Proofs.Ythggakbomlgkhaa.adq
