/-
  Plain facts on uint64 words (no program is named here): a shift by whole bytes and an or. Conditions: as each theorem says.
-/
import Derived.Laws.BitsAllLaws
import Derived.Laws.Bits64
import Derived.Laws.BitsLemmas
import Derived.Lib.UnsafeStr
import GoSem.Op.Shift
import Derived.Below
import Derived.Test.YthggakbomlgkhaaOct
namespace Go.Proofs.Ythggakbomlgkhaa.bits8
open Go Go.RowKit
open Go.Proofs.Ythggakbomlgkhaa.oct

theorem wrap_nat (n : Nat) : IntKind.u64.wrap (n : Int) = ((n % 18446744073709551616 : Nat) : Int) := by
  rw [IntKind.wrap_u64]; omega
theorem or8 (x b : Nat) (hb : b < 256) :
    bits .or .u64 (IntKind.u64.wrap ((x : Int) * 256)) (IntKind.u64.wrap (b : Int)) = (((x * 256 + b) % 18446744073709551616 : Nat) : Int) := by
  have e1 : IntKind.u64.wrap ((x : Int) * 256) = (((x % 72057594037927936) * 256 : Nat) : Int) := by
    rw [IntKind.wrap_u64]; omega
  have e2 : IntKind.u64.wrap (b : Int) = (b : Int) := by rw [IntKind.wrap_u64]; omega
  rw [e1, e2, u64_or_nat _ _ (by omega) (by omega)]
  have h := Nat.shiftLeft_add_eq_or_of_lt (i := 8) (b := b) (by omega) (x % 72057594037927936)
  rw [Nat.shiftLeft_eq] at h
  rw [show (2 : Nat) ^ 8 = 256 from rfl] at h
  rw [← h]
  congr 1
  omega
theorem woU_snoc (l : List UInt8) (b : UInt8) : woU (l ++ [b]) = (woU l * 256 + b.toNat) % 18446744073709551616 := by
  unfold woU
  rw [wo_snoc]
  omega
theorem or8_wo (l : List UInt8) (b : UInt8) :
    bits .or .u64 (IntKind.u64.wrap ((woU l : Int) * 256)) (IntKind.u64.wrap (b.toNat : Int)) = (woU (l ++ [b]) : Int) := by
  rw [or8 _ _ (by have := b.toNat_lt; omega), woU_snoc]
theorem take_snoc (s : ByteArray) (k : Nat) (h : k < s.size) : s.data.toList.take (k + 1) = s.data.toList.take k ++ [s[k]] := by
  rw [List.take_succ_eq_append_getElem (by simpa using h)]; rfl
theorem ret_int {k : IntKind} {a b : Int} (h : a = b) : Ending.returned (.int k a) = .returned (.int k b) := by rw [h]
theorem shr_bytes (n j : Nat) (yk : IntKind) (h : n < 18446744073709551616) :
    Op.shift .shr .u64 (n : Int) yk (8 * (j : Int)) = pure (.int .u64 ((n / 256 ^ j : Nat) : Int)) := by
  have hp : (256 : Nat) ^ j = 2 ^ (8 * j) := by rw [show (256 : Nat) = 2 ^ 8 from rfl, ← Nat.pow_mul]
  have e : (8 * (j : Int)).toNat = 8 * j := by omega
  unfold Op.shift
  rw [if_neg (by omega), e]
  by_cases hj : 8 * j ≤ 64
  · have hm : min (8 * j) IntKind.u64.bits = 8 * j := Nat.min_eq_left hj
    rw [hm]
    show pure (Value.int .u64 ((n : Int).fdiv (2 ^ (8 * j)))) = _
    rw [Int.fdiv_eq_ediv_of_nonneg _ (Int.le_of_lt (Int.pow_pos (by omega))), hp]
    norm_cast
  · have hm : min (8 * j) IntKind.u64.bits = 64 := Nat.min_eq_right (by show 64 ≤ 8 * j; omega)
    rw [hm]
    show pure (Value.int .u64 ((n : Int).fdiv (2 ^ 64))) = _
    rw [Int.fdiv_eq_ediv_of_nonneg _ (by decide), hp]
    have h2 : n / 2 ^ (8 * j) = 0 := Nat.div_eq_of_lt (Nat.lt_of_lt_of_le (m := 2 ^ 64) (by simpa using h) (Nat.pow_le_pow_right (by omega) (by omega)))
    have h3 : (n : Int) / 2 ^ 64 = 0 := by
      rw [show (2 : Int) ^ 64 = 18446744073709551616 from by decide]
      omega
    rw [h2, h3]
    rfl
theorem byteCells_snoc (l : List UInt8) (n j : Nat) : Lib.byteCells (l ++ [byteAt n j]) = Lib.byteCells l ++ [.int .u8 (((n / 256 ^ j : Nat) : Int) % 256)] := by
  rw [Lib.byteCells_append]
  simp only [Lib.byteCells, List.map_cons, List.map_nil, byteAt_toNat]
  rfl
theorem heap_new (w : World) (o : Obj) : (w.alloc o).heap[w.heap.size]? = some o := by
  show (w.heap.push o)[w.heap.size]? = some o
  simp
theorem str_app (x y : List UInt8) : (⟨x.toArray⟩ : ByteArray) ++ ⟨y.toArray⟩ = ⟨(x ++ y).toArray⟩ := by
  apply ByteArray.ext
  simp
theorem str_app_arr (x : Array UInt8) (y : List UInt8) : (⟨x⟩ : ByteArray) ++ ⟨y.toArray⟩ = ⟨(x.toList ++ y).toArray⟩ := by
  apply ByteArray.ext
  simp
theorem bcell {W w1 : World} (hb : Below W.heap.size W w1) : (∀ b o, b < W.heap.size → w1.cell? ⟨b, o, none⟩ = W.cell? ⟨b, o, none⟩) ∧ (∀ b o, b < W.heap.size → w1.frozen? ⟨b, o, none⟩ = W.frozen? ⟨b, o, none⟩) :=
  ⟨fun b o h => hb.cell (p := ⟨b, o, none⟩) h, fun b o h => hb.frozen (p := ⟨b, o, none⟩) h⟩
theorem addr_add (b j : Nat) : (⟨b, 0, none⟩ : Addr).add j = ⟨b, j, none⟩ := by
  by_cases h : j = 0 <;> simp [Addr.add, h]
end Go.Proofs.Ythggakbomlgkhaa.bits8
