/-
  What adrs.Bytes and adrs.Short return, for any address. Conditions: the numbers are of their types.
-/
import Derived.Test.YthggakbomlgkhaaAdE
namespace Go.Proofs.Ythggakbomlgkhaa.adt
open Go Go.RowKit
open Go.Proofs.Ythggakbomlgkhaa.arr Go.Proofs.Ythggakbomlgkhaa.mem Go.Proofs.Ythggakbomlgkhaa.stil Go.Proofs.Ythggakbomlgkhaa.boxt Go.Proofs.Ythggakbomlgkhaa.polys Go.Proofs.Ythggakbomlgkhaa.adm Go.Proofs.Ythggakbomlgkhaa.adp Go.Proofs.Ythggakbomlgkhaa.ade

/-- the widths of an address' numbers, long and short -/
def wL : Nat → Nat := fun j => [4, 12, 4, 4, 4, 4].getD j 0
def wS : Nat → Nat := fun j => [1, 8, 1, 4, 4, 4].getD j 0
/-- the numbers, the kind as a uint64 -/
def nums (l t u p h o : Nat) : Nat → Nat := fun j => [l, t, u, p, h, o].getD j 0
theorem adY_is (l t u p h o : Nat) (k : Int) (hk : k = IntKind.i64.wrap (u : Int)) : ad l t k p h o = adY (nums l t u p h o) := by subst hk; rfl
theorem wL_le : ∀ j, j < 6 → wL j ≤ 12 := by decide
theorem wS_le : ∀ j, j < 6 → wS j ≤ 12 := by decide
theorem nums_lt {l t u p h o : Nat} (hl : l < 18446744073709551616) (ht : t < 18446744073709551616) (hu : u < 18446744073709551616) (hp : p < 18446744073709551616) (hh : h < 18446744073709551616) (ho : o < 18446744073709551616) :
    ∀ j, j < 6 → nums l t u p h o j < 18446744073709551616 := fun j hj => by
  obtain rfl | rfl | rfl | rfl | rfl | rfl : j = 0 ∨ j = 1 ∨ j = 2 ∨ j = 3 ∨ j = 4 ∨ j = 5 := by omega
  · exact hl
  · exact ht
  · exact hu
  · exact hp
  · exact hh
  · exact ho
theorem w_long : FL .i64 6 (fun j => (wL j : Int)) = #[.int .i64 4, .int .i64 12, .int .i64 4, .int .i64 4, .int .i64 4, .int .i64 4] := rfl
theorem w_short : FL .i64 6 (fun j => (wS j : Int)) = #[.int .i64 1, .int .i64 8, .int .i64 1, .int .i64 4, .int .i64 4, .int .i64 4] := rfl
section
variable (l t u p h o : Nat) (k : Int) (w : World) (hk : k = IntKind.i64.wrap (u : Int)) (hl : l < 18446744073709551616) (ht : t < 18446744073709551616) (hu : u < 18446744073709551616) (hp : p < 18446744073709551616) (hh : h < 18446744073709551616) (ho : o < 18446744073709551616)
include hk hl ht hu hp hh ho
set_option maxRecDepth 100000 in
set_option maxHeartbeats 1000000 in
theorem bytes_any : Calls Try.prog 14 #[.agg (ad l t k p h o)] w fun e w' => e = .returned (.string ⟨(cat (nums l t u p h o) wL 6).toArray⟩) ∧ Below w.heap.size w w' := by
  have HE : Away (∀ w1 : World, Calls Try.prog 27 #[.agg (ad l t k p h o), .agg #[.int .i64 4, .int .i64 12, .int .i64 4, .int .i64 4, .int .i64 4, .int .i64 4]] w1 fun e w' => e = .returned (.string ⟨(cat (nums l t u p h o) wL 6).toArray⟩) ∧ Below w1.heap.size w1 w') := ⟨fun w1 => by
    rw [adY_is l t u p h o k hk, ← w_long]
    exact encode_any (nums l t u p h o) wL w1 (nums_lt hl ht hu hp hh ho) wL_le⟩
  obtain ⟨V, HV⟩ := ex_eq (ad l t k p h o)
  have Vi : Away ((Try.prog.info? 26).map (·.size) = some V.size) := ⟨by rw [← HV.out]; kernel_rfl⟩
  obtain ⟨X, HX⟩ := ex_eq (⟨(cat (nums l t u p h o) wL 6).toArray⟩ : ByteArray)
  rw [HV.out, HX.out] at HE
  rw [HV.out, HX.out]
  obtain ⟨W, hW⟩ : ∃ x, w.alloc (.cells V 26) = x := ⟨_, rfl⟩
  obtain ⟨r, -, hb⟩ := one hW
  have HW := Away.mk hW
  have R := Away.mk r
  have HB := Away.mk hb
  clear hW r hb hk hl ht hu hp hh ho
  go_enter Try.func14, Try.ntmps14
  go_wp2_with (first
    | (rw [HW.out])
    | (refine wpList_load_row rfl 26 _ rfl w.heap.size rfl 26 V (0, 0) _ R.out Try.underlying26 rfl Vi.out ?_))
  refine (HE.out _).mono ?_
  rintro e w1 ⟨rfl, hb1⟩
  have B1 : Away (Below w.heap.size w w1) := ⟨HB.out.trans (hb1.mono HB.out.size)⟩
  clear hb1
  go_wp2_with fail
  go_ret
  exact ⟨rfl, B1.out⟩
set_option maxRecDepth 100000 in
set_option maxHeartbeats 1000000 in
theorem short_any : Calls Try.prog 16 #[.agg (ad l t k p h o)] w fun e w' => e = .returned (.string ⟨(cat (nums l t u p h o) wS 6).toArray⟩) ∧ Below w.heap.size w w' := by
  have HE : Away (∀ w1 : World, Calls Try.prog 27 #[.agg (ad l t k p h o), .agg #[.int .i64 1, .int .i64 8, .int .i64 1, .int .i64 4, .int .i64 4, .int .i64 4]] w1 fun e w' => e = .returned (.string ⟨(cat (nums l t u p h o) wS 6).toArray⟩) ∧ Below w1.heap.size w1 w') := ⟨fun w1 => by
    rw [adY_is l t u p h o k hk, ← w_short]
    exact encode_any (nums l t u p h o) wS w1 (nums_lt hl ht hu hp hh ho) wS_le⟩
  obtain ⟨V, HV⟩ := ex_eq (ad l t k p h o)
  have Vi : Away ((Try.prog.info? 26).map (·.size) = some V.size) := ⟨by rw [← HV.out]; kernel_rfl⟩
  obtain ⟨X, HX⟩ := ex_eq (⟨(cat (nums l t u p h o) wS 6).toArray⟩ : ByteArray)
  rw [HV.out, HX.out] at HE
  rw [HV.out, HX.out]
  obtain ⟨W, hW⟩ : ∃ x, w.alloc (.cells V 26) = x := ⟨_, rfl⟩
  obtain ⟨r, -, hb⟩ := one hW
  have HW := Away.mk hW
  have R := Away.mk r
  have HB := Away.mk hb
  clear hW r hb hk hl ht hu hp hh ho
  go_enter Try.func16, Try.ntmps16
  go_wp2_with (first
    | (rw [HW.out])
    | (refine wpList_load_row rfl 26 _ rfl w.heap.size rfl 26 V (0, 0) _ R.out Try.underlying26 rfl Vi.out ?_))
  refine (HE.out _).mono ?_
  rintro e w1 ⟨rfl, hb1⟩
  have B1 : Away (Below w.heap.size w w1) := ⟨HB.out.trans (hb1.mono HB.out.size)⟩
  clear hb1
  go_wp2_with fail
  go_ret
  exact ⟨rfl, B1.out⟩
end
end Go.Proofs.Ythggakbomlgkhaa.adt
