/-
  What worth of the sponge returns: the lane of a string's first eight bytes. Conditions: the string has eight bytes.
-/
import Derived.Test.YtpibnfpgokjnpaaDoorSpoB
import Derived.Test.YtpibnfpgokjnpaaDoorBase
namespace Go.Proofs.YtpibnfpgokjnpaaDoor.spoc
open Go Go.RowKit
open Go.Proofs.YtpibnfpgokjnpaaDoor.arr Go.Proofs.YtpibnfpgokjnpaaDoor.mem Go.Proofs.YtpibnfpgokjnpaaDoor.kecm Go.Proofs.YtpibnfpgokjnpaaDoor.kecb Go.Proofs.YtpibnfpgokjnpaaDoor.spgm Go.Proofs.YtpibnfpgokjnpaaDoor.spmx Go.Proofs.YtpibnfpgokjnpaaDoor.rspa Go.Proofs.YtpibnfpgokjnpaaDoor.rspc Go.Proofs.YtpibnfpgokjnpaaDoor.spoa

theorem index_at (b : ByteArray) (i β : Nat) (z : Int) (hz : z = (i : Int)) (hi : i < b.size) (hb : (bys b).getD i 0 = β) (w : World) : (Instr.index 9 (.string b) (.int .i64 z)).run Tryd.prog w = .ok (.int .u8 (β : Int)) w := by
  rw [hz]; exact byte_of b i β hi hb w
theorem wr_byte (b c : Nat) (hb : b < 256) (hc : c * 256 ≤ 18446744073709551616) : IntKind.u64.wrap (IntKind.u64.wrap (b : Int) * (c : Int)) = ((b * c : Nat) : Int) := by
  have h1 : b * c < 18446744073709551616 := by
    rcases Nat.eq_zero_or_pos c with h | h
    · subst h; simp
    · exact Nat.lt_of_lt_of_le (Nat.mul_lt_mul_of_pos_right hb h) (by rw [Nat.mul_comm]; exact hc)
  have h2 : IntKind.u64.wrap (b : Int) = (b : Int) := by rw [IntKind.wrap_u64]; omega
  rw [h2, ← Int.natCast_mul]
  generalize b * c = z at h1 ⊢
  rw [IntKind.wrap_u64]; omega
theorem or_w8 {b0 b1 b2 b3 b4 b5 b6 b7 : Nat} (h0 : b0 < 256) (h1 : b1 < 256) (h2 : b2 < 256) (h3 : b3 < 256) (h4 : b4 < 256) (h5 : b5 < 256) (h6 : b6 < 256) (h7 : b7 < 256) :
    bits .or .u64 (bits .or .u64 (bits .or .u64 (bits .or .u64 (bits .or .u64 (bits .or .u64 (bits .or .u64 (IntKind.u64.wrap (b0 : Int)) (IntKind.u64.wrap (IntKind.u64.wrap (b1 : Int) * 256))) (IntKind.u64.wrap (IntKind.u64.wrap (b2 : Int) * 65536))) (IntKind.u64.wrap (IntKind.u64.wrap (b3 : Int) * 16777216))) (IntKind.u64.wrap (IntKind.u64.wrap (b4 : Int) * 4294967296))) (IntKind.u64.wrap (IntKind.u64.wrap (b5 : Int) * 1099511627776))) (IntKind.u64.wrap (IntKind.u64.wrap (b6 : Int) * 281474976710656))) (IntKind.u64.wrap (IntKind.u64.wrap (b7 : Int) * 72057594037927936))
    = ((w8 b0 b1 b2 b3 b4 b5 b6 b7 : Nat) : Int) := by
  have e0 : IntKind.u64.wrap (b0 : Int) = (b0 : Int) := by rw [IntKind.wrap_u64]; omega
  have e1 : IntKind.u64.wrap (IntKind.u64.wrap (b1 : Int) * 256) = ((b1 * 2 ^ 8 : Nat) : Int) := wr_byte b1 256 h1 (by decide)
  have e2 : IntKind.u64.wrap (IntKind.u64.wrap (b2 : Int) * 65536) = ((b2 * 2 ^ 16 : Nat) : Int) := wr_byte b2 65536 h2 (by decide)
  have e3 : IntKind.u64.wrap (IntKind.u64.wrap (b3 : Int) * 16777216) = ((b3 * 2 ^ 24 : Nat) : Int) := wr_byte b3 16777216 h3 (by decide)
  have e4 : IntKind.u64.wrap (IntKind.u64.wrap (b4 : Int) * 4294967296) = ((b4 * 2 ^ 32 : Nat) : Int) := wr_byte b4 4294967296 h4 (by decide)
  have e5 : IntKind.u64.wrap (IntKind.u64.wrap (b5 : Int) * 1099511627776) = ((b5 * 2 ^ 40 : Nat) : Int) := wr_byte b5 1099511627776 h5 (by decide)
  have e6 : IntKind.u64.wrap (IntKind.u64.wrap (b6 : Int) * 281474976710656) = ((b6 * 2 ^ 48 : Nat) : Int) := wr_byte b6 281474976710656 h6 (by decide)
  have e7 : IntKind.u64.wrap (IntKind.u64.wrap (b7 : Int) * 72057594037927936) = ((b7 * 2 ^ 56 : Nat) : Int) := wr_byte b7 72057594037927936 h7 (by decide)
  obtain ⟨k1, k2, k3, k4, k5, k6, k7⟩ := w8_parts h0 h1 h2 h3 h4 h5 h6 h7
  simp only [Nat.reducePow] at k1 k2 k3 k4 k5 k6 e1 e2 e3 e4 e5 e6 e7
  unfold w8
  simp only [Nat.reducePow]
  rw [e0, e1, e2, e3, e4, e5, e6, e7, u64_or_nat _ _ (by omega) (by omega), u64_or_nat _ _ (by omega) (by omega), u64_or_nat _ _ (by omega) (by omega), u64_or_nat _ _ (by omega) (by omega), u64_or_nat _ _ (by omega) (by omega), u64_or_nat _ _ (by omega) (by omega), u64_or_nat _ _ (by omega) (by omega)]
set_option maxRecDepth 100000 in
set_option maxHeartbeats 1000000 in
theorem worth_any (b : ByteArray) (b0 b1 b2 b3 b4 b5 b6 b7 : Nat) (w : World) (hs : 8 ≤ b.size) (h0 : (bys b).getD 0 0 = b0) (h1 : (bys b).getD 1 0 = b1) (h2 : (bys b).getD 2 0 = b2) (h3 : (bys b).getD 3 0 = b3) (h4 : (bys b).getD 4 0 = b4) (h5 : (bys b).getD 5 0 = b5) (h6 : (bys b).getD 6 0 = b6) (h7 : (bys b).getD 7 0 = b7) :
    Calls Tryd.prog 53 #[.string b] w fun e w' => e = .returned (.int .u64 ((w8 b0 b1 b2 b3 b4 b5 b6 b7 : Nat) : Int)) ∧ Below w.heap.size w w' := by
  have i0 := index_at b 0 b0 0 rfl (by omega) h0
  have i1 := index_at b 1 b1 1 rfl (by omega) h1
  have i2 := index_at b 2 b2 2 rfl (by omega) h2
  have i3 := index_at b 3 b3 3 rfl (by omega) h3
  have i4 := index_at b 4 b4 4 rfl (by omega) h4
  have i5 := index_at b 5 b5 5 rfl (by omega) h5
  have i6 := index_at b 6 b6 6 rfl (by omega) h6
  have i7 := index_at b 7 b7 7 rfl (by omega) h7
  have e := or_w8 (h0 ▸ bys_lt b 0) (h1 ▸ bys_lt b 1) (h2 ▸ bys_lt b 2) (h3 ▸ bys_lt b 3) (h4 ▸ bys_lt b 4) (h5 ▸ bys_lt b 5) (h6 ▸ bys_lt b 6) (h7 ▸ bys_lt b 7)
  have E := Away.mk e
  clear h0 h1 h2 h3 h4 h5 h6 h7 e
  go_enter Tryd.func53, Tryd.ntmps53
  go_wp2_with fail
  refine still_all (by kernel_rfl) (by kernel_rfl) ?_
  repeat still_step
  refine wpStill_nil ?_
  clear i0 i1 i2 i3 i4 i5 i6 i7
  rw [E.out]
  go_wp2_with fail
  go_ret
  exact ⟨rfl, (Below.refl _ _).drew⟩
end Go.Proofs.YtpibnfpgokjnpaaDoor.spoc
