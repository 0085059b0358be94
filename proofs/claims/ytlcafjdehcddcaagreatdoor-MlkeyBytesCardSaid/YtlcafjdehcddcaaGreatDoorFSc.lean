/-
  What field.Scale returns. Conditions: none.
-/
import Derived.Test.YtlcafjdehcddcaaGreatDoorFlA
import Derived.Test.YtlcafjdehcddcaaGreatDoorPuA
namespace Go.Proofs.YtlcafjdehcddcaaGreatDoor
namespace fscale
open Go Go.RowKit
open arr mem stil polys polt fldm fld1
set_option maxRecDepth 100000 in
set_option maxHeartbeats 4000000 in
theorem scale_any (f : Nat → Int) (n : Int) (w : World) :
 Calls Tryz.prog 14 #[.agg (FL .i64 256 f), .int .i64 n] w fun e w' => e = .returned (.agg (FL .i64 256 fun i => (f i * n) % 8380417)) ∧ Below w.heap.size w w' := by
 obtain ⟨hz, hsize⟩ := zero_of_info infoP
 obtain ⟨z, HZ⟩ := ex_eq (FL .i64 256 fun _ => 0)
 rw [HZ.out] at hz
 have Hzs : Away (z.size = 256) := ⟨by rw [← HZ.out]; exact fl_size _ _ _⟩
 obtain ⟨F, HF⟩ : ∃ F : Nat → Int, Away (F = fun i => (f i * n) % 8380417) := ⟨_, ⟨rfl⟩⟩
 have hFi : ∀ i, F i = (fun i => (f i * n) % 8380417) i := fun i => by rw [HF.out]
 have HFi := Away.mk hFi
 rw [← HF.out]
 clear HF hFi
 obtain ⟨R, HR⟩ := ex_eq (FL .i64 256 F)
 have Ri : Away ((Tryz.prog.info? 25).map (·.size) = some R.size) := ⟨by rw [← HR.out, fl_size]; exact hsize⟩
 have Ro : Away (R.all (·.oneCell') = true) := ⟨by rw [← HR.out]; exact fl_one _ _ _⟩
 have Rz : Away (z.size = R.size) := ⟨by rw [Hzs.out, ← HR.out, fl_size]⟩
 rw [HR.out]
 have Hred := Away.mk reduce_any
 have Hn : Away (0 ≤ n % 8380417 ∧ n % 8380417 < 8380417) := ⟨by omega⟩
 clear hsize
 go_enter Tryz.func14, Tryz.ntmps14
 go_wp2_with fail
 clear hz
 refine (reduce_any n _).mono ?_
 rintro e w1 ⟨rfl, hw1⟩
 subst hw1
 obtain ⟨c, hc⟩ := ex_eq (n % 8380417)
 rw [hc.out]
 have hcb : 0 ≤ c ∧ c < 8380417 := by have := Hn.out; rw [hc.out] at this; exact this
 clear Hn
 go_wp2_with fail
 obtain ⟨W, hW⟩ : ∃ x, (w.alloc (.cells (FL .i64 256 f) 25)).alloc (.cells z 25) = x := ⟨_, rfl⟩
 obtain ⟨b0, b1, hWs, hWb⟩ := two hW
 rw [hW]
 clear hW
 have B0 := Away.mk b0
 have BR := Away.mk b1
 have HWs : Away (w.heap.size + 2 ≤ W.heap.size) := ⟨by omega⟩
 have HWb := Away.mk hWb
 clear hWs hWb b0 b1
 go_loopw [9] (fun v wr => ∃ i : Nat, i ≤ 256 ∧ v = .int .i64 (i : Int) ∧ Away (At w.heap.size (FL .i64 256 (pt F f i)) 25 W wr)) (fun v _ => 256 - (intOf v).toNat)
 case atStart => exact ⟨0, Nat.zero_le _, rfl, ⟨by rw [pt_zero]; exact At.refl B0.out⟩⟩
 case round =>
  obtain ⟨i, hi, rfl, A0⟩ := hrel
  by_cases hlt : i < 256
  ·have hiz : (i : Int) < 256 := by omega
   obtain ⟨x, hx⟩ : ∃ x, f i = x := ⟨_, rfl⟩
   have ca : wr.cell? ⟨w.heap.size, i, none⟩ = some (.int .i64 x) := by
    have h9 := fl_at A0.out.row i hlt
    rw [pt_at, hx] at h9
    exact h9
   have HV : Away (F i = (x * c) % 8380417) := ⟨by rw [HFi.out, hx, ← hc.out, Int.mul_emod, Int.mul_emod x (n % 8380417), Int.emod_emod]⟩
   obtain ⟨x1, hx1⟩ := ex_eq (x % 8380417)
   have hxb : 0 ≤ x1 ∧ x1 < 8380417 := by rw [← hx1.out]; omega
   have hp : 0 ≤ x1 * c ∧ x1 * c ≤ 8380417 * 8380417 := ⟨Int.mul_nonneg hxb.1 hcb.1, Int.le_trans (Int.mul_le_mul_of_nonneg_right (Int.le_of_lt hxb.2) hcb.1) (Int.mul_le_mul_of_nonneg_left (Int.le_of_lt hcb.2) (by decide))⟩
   have hs : IntKind.i64.wrap (x1 * c) = x1 * c := by rw [IntKind.wrap_i64]; omega
   have hs2 : (x1 * c) % 8380417 = F i := by rw [HV.out, ← hx1.out, Int.mul_emod, Int.emod_emod, ← Int.mul_emod]
   obtain ⟨v, hv⟩ := ex_eq ((x1 * c) % 8380417)
   have Hx : ∀ w1 : World, Calls Tryz.prog 54 #[.int .i64 x] w1 fun e w' => e = .returned (.int .i64 x1) ∧ w1 = w' := fun w1 => by rw [← hx1.out]; exact (reduce_any x w1).mono fun _ _ h => ⟨h.1, h.2.symm⟩
   have Hs : ∀ w1 : World, Calls Tryz.prog 54 #[.int .i64 (x1 * c)] w1 fun e w' => e = .returned (.int .i64 v) ∧ w1 = w' := fun w1 => by rw [← hv.out]; exact (reduce_any _ w1).mono fun _ _ h => ⟨h.1, h.2.symm⟩
   have HU : Away (upd (pt F f i) i v = pt F f (i + 1)) := ⟨pt_upd F f i v (by rw [← hv.out, hs2])⟩
   clear hs2 hp hxb
   clear hx
   go_wp2_with fail
   refine (Hx _).mono ?_
   rintro e w3 ⟨rfl, hw3⟩
   subst hw3
   go_wp2_with fail
   refine (Hs _).mono ?_
   rintro e w3 ⟨rfl, hw3⟩
   subst hw3
   clear ca
   have A1 : Away (At w.heap.size (FL .i64 256 (pt F f i)) 25 W wr) := A0
   clear A0
   go_wp2_with ((with_reducible refine wpList_put2 A1 rfl _ _ _ rfl rfl ?_); refine ⟨_, _, _, rfl, rfl, rfl, (by rw [fl_size]; exact hlt), ?_⟩; intro wn HR; rw [fl_set, HU.out] at HR)
   go_roundw
   case rel => exact ⟨i + 1, by omega, by go_num, HR⟩
   case measure => simp [intOf]; omega
  ·obtain rfl : i = 256 := by omega
   simp only [Int.cast_ofNat_Int]
   rw [fl_all, HR.out] at A0
   have Hrow := Away.mk A0.out.row
   have Hres : Away (wr.heap[w.heap.size + 1]? = some (.cells z 25 (0, 0))) := ⟨A0.out.other (by have := HWs.out; omega) (by omega) BR.out⟩
   have HB : Away (Below w.heap.size w wr) := ⟨HWb.out.trans (A0.out.below (by have := HWs.out; omega) (Nat.le_refl _))⟩
   clear A0
   go_wp2_with (first
    | (refine wpList_load_row rfl 25 _ rfl w.heap.size rfl 25 R (0, 0) _ Hrow.out Tryz.underlying25 rfl Ri.out ?_)
    | (refine wpList_store_row rfl 25 _ _ rfl (w.heap.size + 1) R rfl rfl 25 _ Hres.out Ri.out Rz.out Ro.out ?_))
   refine bodyPost_ret_by (v := .agg R) (results_cell_row rfl _ _ (w.heap.size + 1) 25 _ (0, 0) _ rfl (setRow_heap _ _ _ _ _ _ Hres.out) Tryz.underlying25 rfl Ri.out) rfl ?_
   exact ⟨rfl, HB.out.trans (below_setRow _ _ _ (by omega))⟩
end fscale
end Go.Proofs.YtlcafjdehcddcaaGreatDoor
