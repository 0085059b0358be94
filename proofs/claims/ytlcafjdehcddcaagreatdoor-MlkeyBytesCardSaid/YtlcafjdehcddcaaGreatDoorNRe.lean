/-
  What ntt's reduced returns: each coefficient reduced. Conditions: none. What ntt.Times returns: the products coefficient by coefficient, reduced. Conditions: none.
-/
import Derived.Test.YtlcafjdehcddcaaGreatDoorFSc
import Derived.Test.YtlcafjdehcddcaaGreatDoorNtm
import Derived.Test.YtlcafjdehcddcaaGreatDoorFlA
import Derived.Test.YtlcafjdehcddcaaGreatDoorPuA
namespace Go.Proofs.YtlcafjdehcddcaaGreatDoor
namespace nred
open Go Go.RowKit
open arr mem stil polys polt nttl
set_option maxRecDepth 100000 in
set_option maxHeartbeats 2000000 in
theorem reduced_any (f : Nat → Int) (w : World) :
 Calls Tryz.prog 91 #[.agg (FL .i64 256 f)] w fun e w' => e = .returned (.agg (FL .i64 256 (red f))) ∧ Below w.heap.size w w' := by
 obtain ⟨hz, hsize⟩ := zero_of_info infoP
 obtain ⟨z, HZ⟩ := ex_eq (FL .i64 256 fun _ => 0)
 rw [HZ.out] at hz
 have Hzs : Away (z.size = 256) := ⟨by rw [← HZ.out]; exact fl_size _ _ _⟩
 have hr : (fun i => (f i * 1) % 8380417) = red f := by funext i; unfold red; rw [Int.mul_one]
 obtain ⟨F, HF⟩ := ex_eq (FL .i64 256 f)
 obtain ⟨R, HR⟩ := ex_eq (FL .i64 256 (red f))
 have Fi : Away ((Tryz.prog.info? 25).map (·.size) = some F.size) := ⟨by rw [← HF.out, fl_size]; exact hsize⟩
 have Ri : Away ((Tryz.prog.info? 25).map (·.size) = some R.size) := ⟨by rw [← HR.out, fl_size]; exact hsize⟩
 have Ro : Away (R.all (·.oneCell') = true) := ⟨by rw [← HR.out]; exact fl_one _ _ _⟩
 have Rz : Away (z.size = R.size) := ⟨by rw [Hzs.out, ← HR.out, fl_size]⟩
 have H : Away (∀ w1 : World, Calls Tryz.prog 14 #[.agg F, .int .i64 1] w1 fun e w' => e = .returned (.agg R) ∧ Below w1.heap.size w1 w') := ⟨fun w1 => by
  have h := fscale.scale_any f 1 w1
  rw [hr, HF.out, HR.out] at h
  exact h⟩
 rw [HF.out, HR.out]
 clear hr HF HR HZ hsize
 go_enter Tryz.func91, Tryz.ntmps91
 go_wp2_with fail
 obtain ⟨W, hW⟩ : ∃ x, (w.alloc (.cells F 25)).alloc (.cells z 25) = x := ⟨_, rfl⟩
 obtain ⟨b0, b1, hWs, hWb⟩ := two hW
 rw [hW]
 clear hW
 have B0 := Away.mk b0
 have B1 := Away.mk b1
 have HWb := Away.mk hWb
 clear hz hWs hWb b0 b1
 go_wp2_with fail
 refine wp_load_row 25 _ rfl w.heap.size rfl 25 F (0, 0) _ B0.out Tryz.underlying25 rfl Fi.out ?_
 go_wp2_with fail
 refine (H.out _).mono ?_
 rintro e w1 ⟨rfl, hb⟩
 have B2 : Away (w1.heap[w.heap.size + 1]? = some (.cells z 25 (0, 0))) := ⟨(hb.block _ (lt_of_row B1.out)).trans B1.out⟩
 have HB : Away (Below w.heap.size w w1) := ⟨HWb.out.trans (hb.mono HWb.out.size)⟩
 clear hb B0 B1 HWb
 go_wp2_with (refine wpList_store_row rfl 25 _ _ rfl (w.heap.size + 1) R rfl rfl 25 _ B2.out Ri.out Rz.out Ro.out ?_)
 refine bodyPost_ret_by (v := .agg R) (results_cell_row rfl _ _ (w.heap.size + 1) 25 _ (0, 0) _ rfl (setRow_heap _ _ _ _ _ _ B2.out) Tryz.underlying25 rfl Ri.out) rfl ?_
 exact ⟨rfl, HB.out.trans (below_setRow _ _ _ (by omega))⟩
end nred
namespace ntimes
open Go Go.RowKit
open arr mem stil polys polt fldm fld1
set_option maxRecDepth 100000 in
set_option maxHeartbeats 4000000 in
theorem times_any (f g : Nat → Int) (w : World) :
 Calls Tryz.prog 49 #[.agg (FL .i64 256 f), .agg (FL .i64 256 g)] w fun e w' => e = .returned (.agg (FL .i64 256 fun i => (f i * g i) % 8380417)) ∧ Below w.heap.size w w' := by
 obtain ⟨hz, hsize⟩ := zero_of_info infoP
 obtain ⟨z, HZ⟩ := ex_eq (FL .i64 256 fun _ => 0)
 rw [HZ.out] at hz
 have Hzs : Away (z.size = 256) := ⟨by rw [← HZ.out]; exact fl_size _ _ _⟩
 obtain ⟨F, HF⟩ : ∃ F : Nat → Int, Away (F = fun i => (f i * g i) % 8380417) := ⟨_, ⟨rfl⟩⟩
 have hFi : ∀ i, F i = (fun i => (f i * g i) % 8380417) i := fun i => by rw [HF.out]
 have HFi := Away.mk hFi
 rw [← HF.out]
 clear HF hFi
 obtain ⟨R, HR⟩ := ex_eq (FL .i64 256 F)
 have Ri : Away ((Tryz.prog.info? 25).map (·.size) = some R.size) := ⟨by rw [← HR.out, fl_size]; exact hsize⟩
 have Ro : Away (R.all (·.oneCell') = true) := ⟨by rw [← HR.out]; exact fl_one _ _ _⟩
 have Rz : Away (z.size = R.size) := ⟨by rw [Hzs.out, ← HR.out, fl_size]⟩
 rw [HR.out]
 have Hred := Away.mk reduce_any
 clear hsize
 go_enter Tryz.func49, Tryz.ntmps49
 go_wp2_with fail
 clear hz
 obtain ⟨W, hW⟩ : ∃ x, ((w.alloc (.cells (FL .i64 256 f) 25)).alloc (.cells (FL .i64 256 g) 25)).alloc (.cells z 25) = x := ⟨_, rfl⟩
 obtain ⟨b0, b1, b2, hWs, hWb⟩ := three hW
 rw [hW]
 clear hW
 have B0 := Away.mk b0
 have B1 := Away.mk b1
 have BR := Away.mk b2
 have HWs : Away (w.heap.size + 3 ≤ W.heap.size) := ⟨by omega⟩
 have HWb := Away.mk hWb
 clear hWs hWb b0 b1 b2
 go_loopw [6] (fun v wr => ∃ i : Nat, i ≤ 256 ∧ v = .int .i64 (i : Int) ∧ Away (At w.heap.size (FL .i64 256 (pt F f i)) 25 W wr)) (fun v _ => 256 - (intOf v).toNat)
 case atStart => exact ⟨0, Nat.zero_le _, rfl, ⟨by rw [pt_zero]; exact At.refl B0.out⟩⟩
 case round =>
  obtain ⟨i, hi, rfl, A0⟩ := hrel
  by_cases hlt : i < 256
  ·have hiz : (i : Int) < 256 := by omega
   obtain ⟨x, hx⟩ : ∃ x, f i = x := ⟨_, rfl⟩
   have ca : wr.cell? ⟨w.heap.size, i, none⟩ = some (.int .i64 x) := by
    have h9 := fl_at A0.out.row i hlt
    rw [pt_at, hx] at h9
    exact h9
   obtain ⟨y, hy⟩ : ∃ y, g i = y := ⟨_, rfl⟩
   have cb : wr.cell? ⟨w.heap.size + 1, i, none⟩ = some (.int .i64 y) := by
    rw [← hy]
    exact fl_at (A0.out.other (by have := HWs.out; omega) (by omega) B1.out) i hlt
   have HV : Away (F i = (x * y) % 8380417) := ⟨by rw [HFi.out, hx, hy]⟩
   obtain ⟨x1, hx1⟩ := ex_eq (x % 8380417)
   obtain ⟨y1, hy1⟩ := ex_eq (y % 8380417)
   have hxb : 0 ≤ x1 ∧ x1 < 8380417 := by rw [← hx1.out]; omega
   have hyb : 0 ≤ y1 ∧ y1 < 8380417 := by rw [← hy1.out]; omega
   have hp : 0 ≤ x1 * y1 ∧ x1 * y1 ≤ 8380417 * 8380417 := ⟨Int.mul_nonneg hxb.1 hyb.1, Int.le_trans (Int.mul_le_mul_of_nonneg_right (Int.le_of_lt hxb.2) hyb.1) (Int.mul_le_mul_of_nonneg_left (Int.le_of_lt hyb.2) (by decide))⟩
   have hs : IntKind.i64.wrap (x1 * y1) = x1 * y1 := by rw [IntKind.wrap_i64]; omega
   have hmm := Int.mul_emod x y 8380417
   rw [hx1.out, hy1.out] at hmm
   obtain ⟨s, hs1⟩ := ex_eq (x1 * y1)
   have hs2 : s % 8380417 = F i := by rw [HV.out, ← hs1.out, hmm]
   obtain ⟨v, hv⟩ := ex_eq (s % 8380417)
   have Hx : ∀ w1 : World, Calls Tryz.prog 54 #[.int .i64 x] w1 fun e w' => e = .returned (.int .i64 x1) ∧ w' = w1 := fun w1 => by rw [← hx1.out]; exact reduce_any x w1
   have Hy : ∀ w1 : World, Calls Tryz.prog 54 #[.int .i64 y] w1 fun e w' => e = .returned (.int .i64 y1) ∧ w' = w1 := fun w1 => by rw [← hy1.out]; exact reduce_any y w1
   have Hs : ∀ w1 : World, Calls Tryz.prog 54 #[.int .i64 (x1 * y1)] w1 fun e w' => e = .returned (.int .i64 v) ∧ w' = w1 := fun w1 => by rw [hs1.out, ← hv.out]; exact reduce_any s w1
   have HU : Away (upd (pt F f i) i v = pt F f (i + 1)) := ⟨pt_upd F f i v (by rw [← hv.out, hs2])⟩
   clear hy hs2 hmm hp hxb hyb
   clear hx
   go_wp2_with fail
   refine still_tail 12 (by kernel_rfl) (by kernel_rfl) ?_
   simp only [List.take_succ_cons, List.take_zero, List.drop_succ_cons, List.drop_zero]
   repeat still_step
   still_call (Hx _)
   repeat still_step
   still_call (Hy _)
   repeat still_step
   still_call (Hs _)
   repeat still_step
   refine wpStill_nil ?_
   clear cb
   clear ca
   have A1 : Away (At w.heap.size (FL .i64 256 (pt F f i)) 25 W wr.drew) := ⟨at_drew A0.out⟩
   clear A0
   with_reducible refine wpList_put2 A1 rfl _ _ _ rfl rfl ?_
   refine ⟨_, _, _, rfl, rfl, rfl, by rw [fl_size]; exact hlt, ?_⟩
   intro wn HR
   rw [fl_set, HU.out] at HR
   go_wp2_with fail
   go_roundw
   case rel => exact ⟨i + 1, by omega, by go_num, HR⟩
   case measure => simp [intOf]; omega
  ·obtain rfl : i = 256 := by omega
   simp only [Int.cast_ofNat_Int]
   rw [fl_all, HR.out] at A0
   have Hrow := Away.mk A0.out.row
   have Hres : Away (wr.heap[w.heap.size + 2]? = some (.cells z 25 (0, 0))) := ⟨A0.out.other (by have := HWs.out; omega) (by omega) BR.out⟩
   have HB : Away (Below w.heap.size w wr) := ⟨HWb.out.trans (A0.out.below (by have := HWs.out; omega) (Nat.le_refl _))⟩
   clear A0
   go_wp2_with (first
    | (refine wpList_load_row rfl 25 _ rfl w.heap.size rfl 25 R (0, 0) _ Hrow.out Tryz.underlying25 rfl Ri.out ?_)
    | (refine wpList_store_row rfl 25 _ _ rfl (w.heap.size + 2) R rfl rfl 25 _ Hres.out Ri.out Rz.out Ro.out ?_))
   refine bodyPost_ret_by (v := .agg R) (results_cell_row rfl _ _ (w.heap.size + 2) 25 _ (0, 0) _ rfl (setRow_heap _ _ _ _ _ _ Hres.out) Tryz.underlying25 rfl Ri.out) rfl ?_
   exact ⟨rfl, HB.out.trans (below_setRow _ _ _ (by omega))⟩
end ntimes
end Go.Proofs.YtlcafjdehcddcaaGreatDoor
