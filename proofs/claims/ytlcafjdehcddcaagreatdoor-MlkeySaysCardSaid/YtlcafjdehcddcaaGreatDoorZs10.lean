/-
  What the document's own Add of layer 7 returns. Conditions: none. What the document's own Scale of layer 7 returns. Conditions: none. What the document's own Times of layer 8 returns: the products coefficient by coefficient, reduced. Conditions: none. What the document's own There of layer 8 returns: the layers of the transform there, all reduced. Conditions: the tables are of their type (their last 256 cells are the ring's roots, whatever they are). What the document's own Back of layer 8 returns: the layers of the transform back, all reduced, times the inverse of 256. Conditions: the tables are of their type (their last 256 cells are the ring's roots, whatever they are). What the document's own Rows of layer 12 returns. Conditions: the tables hold the ring's roots; the matrix and the vector are slices of 1 to 8 polynomials.
-/
import Derived.Test.YtlcafjdehcddcaaGreatDoorZs09
import Derived.Test.YtlcafjdehcddcaaGreatDoorZs03
import Derived.Test.YtlcafjdehcddcaaGreatDoorZs07
import Derived.Great.BuildSlice
namespace Go.Proofs.YtlcafjdehcddcaaGreatDoor
namespace radd
open Go Go.RowKit
open arr mem stil polys polt fldm rfld
set_option maxRecDepth 100000 in
set_option maxHeartbeats 4000000 in
theorem add_any (f g : Nat → Int) (w : World) :
 Calls Tryz.prog 46 #[.agg (FL .i64 256 f), .agg (FL .i64 256 g)] w fun e w' => e = .returned (.agg (FL .i64 256 fun i => (f i + g i) % 8380417)) ∧ Below w.heap.size w w' := by
 obtain ⟨hz, hsize⟩ := zero_of_info infoP
 obtain ⟨z, HZ⟩ := ex_eq (FL .i64 256 fun _ => 0)
 rw [HZ.out] at hz
 have Hzs : Away (z.size = 256) := ⟨by rw [← HZ.out]; exact fl_size _ _ _⟩
 obtain ⟨F, HF⟩ : ∃ F : Nat → Int, Away (F = fun i => (f i + g i) % 8380417) := ⟨_, ⟨rfl⟩⟩
 have hFi : ∀ i, F i = (fun i => (f i + g i) % 8380417) i := fun i => by rw [HF.out]
 have HFi := Away.mk hFi
 rw [← HF.out]
 clear HF hFi
 obtain ⟨R, HR⟩ := ex_eq (FL .i64 256 F)
 have Ri : Away ((Tryz.prog.info? 25).map (·.size) = some R.size) := ⟨by rw [← HR.out, fl_size]; exact hsize⟩
 have Ro : Away (R.all (·.oneCell') = true) := ⟨by rw [← HR.out]; exact fl_one _ _ _⟩
 have Rz : Away (z.size = R.size) := ⟨by rw [Hzs.out, ← HR.out, fl_size]⟩
 rw [HR.out]
 have Hred := Away.mk reduce_any
 clear hsize
 go_enter Tryz.func46, Tryz.ntmps46
 go_wp2_with fail
 clear hz
 obtain ⟨W, hW⟩ : ∃ x, ((w.alloc (.cells (FL .i64 256 f) 25)).alloc (.cells (FL .i64 256 g) 25)).alloc (.cells z 25) = x := ⟨_, rfl⟩
 obtain ⟨b0, b1, b2, hWs, hWb⟩ := three hW
 rw [hW]
 clear hW
 have B0 := Away.mk b0
 have B1 := Away.mk b1
 have BR := Away.mk b2
 have HWs : Away (w.heap.size + 3 ≤ W.heap.size) := ⟨by omega⟩
 have HWb := Away.mk hWb
 clear hWs hWb b0 b1 b2
 go_loopw [6] (fun v wr => ∃ i : Nat, i ≤ 256 ∧ v = .int .i64 (i : Int) ∧ Away (At w.heap.size (FL .i64 256 (pt F f i)) 25 W wr)) (fun v _ => 256 - (intOf v).toNat)
 case atStart => exact ⟨0, Nat.zero_le _, rfl, ⟨by rw [pt_zero]; exact At.refl B0.out⟩⟩
 case round =>
  obtain ⟨i, hi, rfl, A0⟩ := hrel
  by_cases hlt : i < 256
  ·have hiz : (i : Int) < 256 := by omega
   obtain ⟨x, hx⟩ : ∃ x, f i = x := ⟨_, rfl⟩
   have ca : wr.cell? ⟨w.heap.size, i, none⟩ = some (.int .i64 x) := by
    have h9 := fl_at A0.out.row i hlt
    rw [pt_at, hx] at h9
    exact h9
   obtain ⟨y, hy⟩ : ∃ y, g i = y := ⟨_, rfl⟩
   have cb : wr.cell? ⟨w.heap.size + 1, i, none⟩ = some (.int .i64 y) := by
    rw [← hy]
    exact fl_at (A0.out.other (by have := HWs.out; omega) (by omega) B1.out) i hlt
   have HV : Away (F i = (x + y) % 8380417) := ⟨by rw [HFi.out, hx, hy]⟩
   obtain ⟨x1, hx1⟩ := ex_eq (x % 8380417)
   obtain ⟨y1, hy1⟩ := ex_eq (y % 8380417)
   have hs : IntKind.i64.wrap (x1 + y1) = x1 + y1 := by rw [← hx1.out, ← hy1.out, IntKind.wrap_i64]; omega
   obtain ⟨s, hs1⟩ := ex_eq (x1 + y1)
   have hs2 : s % 8380417 = F i := by rw [HV.out, ← hs1.out, ← hx1.out, ← hy1.out]; omega
   obtain ⟨v, hv⟩ := ex_eq (s % 8380417)
   have Hx : ∀ w1 : World, Calls Tryz.prog 89 #[.int .i64 x] w1 fun e w' => e = .returned (.int .i64 x1) ∧ w' = w1 := fun w1 => by rw [← hx1.out]; exact reduce_any x w1
   have Hy : ∀ w1 : World, Calls Tryz.prog 89 #[.int .i64 y] w1 fun e w' => e = .returned (.int .i64 y1) ∧ w' = w1 := fun w1 => by rw [← hy1.out]; exact reduce_any y w1
   have Hs : ∀ w1 : World, Calls Tryz.prog 89 #[.int .i64 (x1 + y1)] w1 fun e w' => e = .returned (.int .i64 v) ∧ w' = w1 := fun w1 => by rw [hs1.out, ← hv.out]; exact reduce_any s w1
   have HU : Away (upd (pt F f i) i v = pt F f (i + 1)) := ⟨pt_upd F f i v (by rw [← hv.out, hs2])⟩
   clear hy hs2
   clear hx
   go_wp2_with fail
   refine still_tail 12 (by kernel_rfl) (by kernel_rfl) ?_
   simp only [List.take_succ_cons, List.take_zero, List.drop_succ_cons, List.drop_zero]
   repeat still_step
   still_call (Hx _)
   repeat still_step
   still_call (Hy _)
   repeat still_step
   still_call (Hs _)
   repeat still_step
   refine wpStill_nil ?_
   clear cb
   clear ca
   have A1 : Away (At w.heap.size (FL .i64 256 (pt F f i)) 25 W wr.drew) := ⟨at_drew A0.out⟩
   clear A0
   with_reducible refine wpList_put2 A1 rfl _ _ _ rfl rfl ?_
   refine ⟨_, _, _, rfl, rfl, rfl, by rw [fl_size]; exact hlt, ?_⟩
   intro wn HR
   rw [fl_set, HU.out] at HR
   go_wp2_with fail
   go_roundw
   case rel => exact ⟨i + 1, by omega, by go_num, HR⟩
   case measure => simp [intOf]; omega
  ·obtain rfl : i = 256 := by omega
   simp only [Int.cast_ofNat_Int]
   rw [fl_all, HR.out] at A0
   have Hrow := Away.mk A0.out.row
   have Hres : Away (wr.heap[w.heap.size + 2]? = some (.cells z 25 (0, 0))) := ⟨A0.out.other (by have := HWs.out; omega) (by omega) BR.out⟩
   have HB : Away (Below w.heap.size w wr) := ⟨HWb.out.trans (A0.out.below (by have := HWs.out; omega) (Nat.le_refl _))⟩
   clear A0
   go_wp2_with (first
    | (refine wpList_load_row rfl 25 _ rfl w.heap.size rfl 25 R (0, 0) _ Hrow.out Tryz.underlying25 rfl Ri.out ?_)
    | (refine wpList_store_row rfl 25 _ _ rfl (w.heap.size + 2) R rfl rfl 25 _ Hres.out Ri.out Rz.out Ro.out ?_))
   refine bodyPost_ret_by (v := .agg R) (results_cell_row rfl _ _ (w.heap.size + 2) 25 _ (0, 0) _ rfl (setRow_heap _ _ _ _ _ _ Hres.out) Tryz.underlying25 rfl Ri.out) rfl ?_
   exact ⟨rfl, HB.out.trans (below_setRow _ _ _ (by omega))⟩
end radd
namespace rscale
open Go Go.RowKit
open arr mem stil polys polt fldm rfld
set_option maxRecDepth 100000 in
set_option maxHeartbeats 4000000 in
theorem scale_any (f : Nat → Int) (n : Int) (w : World) :
 Calls Tryz.prog 94 #[.agg (FL .i64 256 f), .int .i64 n] w fun e w' => e = .returned (.agg (FL .i64 256 fun i => (f i * n) % 8380417)) ∧ Below w.heap.size w w' := by
 obtain ⟨hz, hsize⟩ := zero_of_info infoP
 obtain ⟨z, HZ⟩ := ex_eq (FL .i64 256 fun _ => 0)
 rw [HZ.out] at hz
 have Hzs : Away (z.size = 256) := ⟨by rw [← HZ.out]; exact fl_size _ _ _⟩
 obtain ⟨F, HF⟩ : ∃ F : Nat → Int, Away (F = fun i => (f i * n) % 8380417) := ⟨_, ⟨rfl⟩⟩
 have hFi : ∀ i, F i = (fun i => (f i * n) % 8380417) i := fun i => by rw [HF.out]
 have HFi := Away.mk hFi
 rw [← HF.out]
 clear HF hFi
 obtain ⟨R, HR⟩ := ex_eq (FL .i64 256 F)
 have Ri : Away ((Tryz.prog.info? 25).map (·.size) = some R.size) := ⟨by rw [← HR.out, fl_size]; exact hsize⟩
 have Ro : Away (R.all (·.oneCell') = true) := ⟨by rw [← HR.out]; exact fl_one _ _ _⟩
 have Rz : Away (z.size = R.size) := ⟨by rw [Hzs.out, ← HR.out, fl_size]⟩
 rw [HR.out]
 have Hred := Away.mk reduce_any
 have Hn : Away (0 ≤ n % 8380417 ∧ n % 8380417 < 8380417) := ⟨by omega⟩
 clear hsize
 go_enter Tryz.func94, Tryz.ntmps94
 go_wp2_with fail
 clear hz
 refine (reduce_any n _).mono ?_
 rintro e w1 ⟨rfl, hw1⟩
 subst hw1
 obtain ⟨c, hc⟩ := ex_eq (n % 8380417)
 rw [hc.out]
 have hcb : 0 ≤ c ∧ c < 8380417 := by have := Hn.out; rw [hc.out] at this; exact this
 clear Hn
 go_wp2_with fail
 obtain ⟨W, hW⟩ : ∃ x, (w.alloc (.cells (FL .i64 256 f) 25)).alloc (.cells z 25) = x := ⟨_, rfl⟩
 obtain ⟨b0, b1, hWs, hWb⟩ := two hW
 rw [hW]
 clear hW
 have B0 := Away.mk b0
 have BR := Away.mk b1
 have HWs : Away (w.heap.size + 2 ≤ W.heap.size) := ⟨by omega⟩
 have HWb := Away.mk hWb
 clear hWs hWb b0 b1
 go_loopw [8] (fun v wr => ∃ i : Nat, i ≤ 256 ∧ v = .int .i64 (i : Int) ∧ Away (At w.heap.size (FL .i64 256 (pt F f i)) 25 W wr)) (fun v _ => 256 - (intOf v).toNat)
 case atStart => exact ⟨0, Nat.zero_le _, rfl, ⟨by rw [pt_zero]; exact At.refl B0.out⟩⟩
 case round =>
  obtain ⟨i, hi, rfl, A0⟩ := hrel
  by_cases hlt : i < 256
  ·have hiz : (i : Int) < 256 := by omega
   obtain ⟨x, hx⟩ : ∃ x, f i = x := ⟨_, rfl⟩
   have ca : wr.cell? ⟨w.heap.size, i, none⟩ = some (.int .i64 x) := by
    have h9 := fl_at A0.out.row i hlt
    rw [pt_at, hx] at h9
    exact h9
   have HV : Away (F i = (x * c) % 8380417) := ⟨by rw [HFi.out, hx, ← hc.out, Int.mul_emod, Int.mul_emod x (n % 8380417), Int.emod_emod]⟩
   obtain ⟨x1, hx1⟩ := ex_eq (x % 8380417)
   have hxb : 0 ≤ x1 ∧ x1 < 8380417 := by rw [← hx1.out]; omega
   have hp : 0 ≤ x1 * c ∧ x1 * c ≤ 8380417 * 8380417 := ⟨Int.mul_nonneg hxb.1 hcb.1, Int.le_trans (Int.mul_le_mul_of_nonneg_right (Int.le_of_lt hxb.2) hcb.1) (Int.mul_le_mul_of_nonneg_left (Int.le_of_lt hcb.2) (by decide))⟩
   have hs : IntKind.i64.wrap (x1 * c) = x1 * c := by rw [IntKind.wrap_i64]; omega
   have hs2 : (x1 * c) % 8380417 = F i := by rw [HV.out, ← hx1.out, Int.mul_emod, Int.emod_emod, ← Int.mul_emod]
   obtain ⟨v, hv⟩ := ex_eq ((x1 * c) % 8380417)
   have Hx : ∀ w1 : World, Calls Tryz.prog 89 #[.int .i64 x] w1 fun e w' => e = .returned (.int .i64 x1) ∧ w1 = w' := fun w1 => by rw [← hx1.out]; exact (reduce_any x w1).mono fun _ _ h => ⟨h.1, h.2.symm⟩
   have Hs : ∀ w1 : World, Calls Tryz.prog 89 #[.int .i64 (x1 * c)] w1 fun e w' => e = .returned (.int .i64 v) ∧ w1 = w' := fun w1 => by rw [← hv.out]; exact (reduce_any _ w1).mono fun _ _ h => ⟨h.1, h.2.symm⟩
   have HU : Away (upd (pt F f i) i v = pt F f (i + 1)) := ⟨pt_upd F f i v (by rw [← hv.out, hs2])⟩
   clear hs2 hp hxb
   clear hx
   go_wp2_with fail
   refine (Hx _).mono ?_
   rintro e w3 ⟨rfl, hw3⟩
   subst hw3
   go_wp2_with fail
   refine (Hs _).mono ?_
   rintro e w3 ⟨rfl, hw3⟩
   subst hw3
   clear ca
   have A1 : Away (At w.heap.size (FL .i64 256 (pt F f i)) 25 W wr) := A0
   clear A0
   go_wp2_with ((with_reducible refine wpList_put2 A1 rfl _ _ _ rfl rfl ?_); refine ⟨_, _, _, rfl, rfl, rfl, (by rw [fl_size]; exact hlt), ?_⟩; intro wn HR; rw [fl_set, HU.out] at HR)
   go_roundw
   case rel => exact ⟨i + 1, by omega, by go_num, HR⟩
   case measure => simp [intOf]; omega
  ·obtain rfl : i = 256 := by omega
   simp only [Int.cast_ofNat_Int]
   rw [fl_all, HR.out] at A0
   have Hrow := Away.mk A0.out.row
   have Hres : Away (wr.heap[w.heap.size + 1]? = some (.cells z 25 (0, 0))) := ⟨A0.out.other (by have := HWs.out; omega) (by omega) BR.out⟩
   have HB : Away (Below w.heap.size w wr) := ⟨HWb.out.trans (A0.out.below (by have := HWs.out; omega) (Nat.le_refl _))⟩
   clear A0
   go_wp2_with (first
    | (refine wpList_load_row rfl 25 _ rfl w.heap.size rfl 25 R (0, 0) _ Hrow.out Tryz.underlying25 rfl Ri.out ?_)
    | (refine wpList_store_row rfl 25 _ _ rfl (w.heap.size + 1) R rfl rfl 25 _ Hres.out Ri.out Rz.out Ro.out ?_))
   refine bodyPost_ret_by (v := .agg R) (results_cell_row rfl _ _ (w.heap.size + 1) 25 _ (0, 0) _ rfl (setRow_heap _ _ _ _ _ _ Hres.out) Tryz.underlying25 rfl Ri.out) rfl ?_
   exact ⟨rfl, HB.out.trans (below_setRow _ _ _ (by omega))⟩
end rscale
namespace rntimes
open Go Go.RowKit
open arr mem stil polys polt fldm rfld
set_option maxRecDepth 100000 in
set_option maxHeartbeats 4000000 in
theorem times_any (f g : Nat → Int) (w : World) :
 Calls Tryz.prog 52 #[.agg (FL .i64 256 f), .agg (FL .i64 256 g)] w fun e w' => e = .returned (.agg (FL .i64 256 fun i => (f i * g i) % 8380417)) ∧ Below w.heap.size w w' := by
 obtain ⟨hz, hsize⟩ := zero_of_info infoP
 obtain ⟨z, HZ⟩ := ex_eq (FL .i64 256 fun _ => 0)
 rw [HZ.out] at hz
 have Hzs : Away (z.size = 256) := ⟨by rw [← HZ.out]; exact fl_size _ _ _⟩
 obtain ⟨F, HF⟩ : ∃ F : Nat → Int, Away (F = fun i => (f i * g i) % 8380417) := ⟨_, ⟨rfl⟩⟩
 have hFi : ∀ i, F i = (fun i => (f i * g i) % 8380417) i := fun i => by rw [HF.out]
 have HFi := Away.mk hFi
 rw [← HF.out]
 clear HF hFi
 obtain ⟨R, HR⟩ := ex_eq (FL .i64 256 F)
 have Ri : Away ((Tryz.prog.info? 25).map (·.size) = some R.size) := ⟨by rw [← HR.out, fl_size]; exact hsize⟩
 have Ro : Away (R.all (·.oneCell') = true) := ⟨by rw [← HR.out]; exact fl_one _ _ _⟩
 have Rz : Away (z.size = R.size) := ⟨by rw [Hzs.out, ← HR.out, fl_size]⟩
 rw [HR.out]
 have Hred := Away.mk reduce_any
 clear hsize
 go_enter Tryz.func52, Tryz.ntmps52
 go_wp2_with fail
 clear hz
 obtain ⟨W, hW⟩ : ∃ x, ((w.alloc (.cells (FL .i64 256 f) 25)).alloc (.cells (FL .i64 256 g) 25)).alloc (.cells z 25) = x := ⟨_, rfl⟩
 obtain ⟨b0, b1, b2, hWs, hWb⟩ := three hW
 rw [hW]
 clear hW
 have B0 := Away.mk b0
 have B1 := Away.mk b1
 have BR := Away.mk b2
 have HWs : Away (w.heap.size + 3 ≤ W.heap.size) := ⟨by omega⟩
 have HWb := Away.mk hWb
 clear hWs hWb b0 b1 b2
 go_loopw [6] (fun v wr => ∃ i : Nat, i ≤ 256 ∧ v = .int .i64 (i : Int) ∧ Away (At w.heap.size (FL .i64 256 (pt F f i)) 25 W wr)) (fun v _ => 256 - (intOf v).toNat)
 case atStart => exact ⟨0, Nat.zero_le _, rfl, ⟨by rw [pt_zero]; exact At.refl B0.out⟩⟩
 case round =>
  obtain ⟨i, hi, rfl, A0⟩ := hrel
  by_cases hlt : i < 256
  ·have hiz : (i : Int) < 256 := by omega
   obtain ⟨x, hx⟩ : ∃ x, f i = x := ⟨_, rfl⟩
   have ca : wr.cell? ⟨w.heap.size, i, none⟩ = some (.int .i64 x) := by
    have h9 := fl_at A0.out.row i hlt
    rw [pt_at, hx] at h9
    exact h9
   obtain ⟨y, hy⟩ : ∃ y, g i = y := ⟨_, rfl⟩
   have cb : wr.cell? ⟨w.heap.size + 1, i, none⟩ = some (.int .i64 y) := by
    rw [← hy]
    exact fl_at (A0.out.other (by have := HWs.out; omega) (by omega) B1.out) i hlt
   have HV : Away (F i = (x * y) % 8380417) := ⟨by rw [HFi.out, hx, hy]⟩
   obtain ⟨x1, hx1⟩ := ex_eq (x % 8380417)
   obtain ⟨y1, hy1⟩ := ex_eq (y % 8380417)
   have hxb : 0 ≤ x1 ∧ x1 < 8380417 := by rw [← hx1.out]; omega
   have hyb : 0 ≤ y1 ∧ y1 < 8380417 := by rw [← hy1.out]; omega
   have hp : 0 ≤ x1 * y1 ∧ x1 * y1 ≤ 8380417 * 8380417 := ⟨Int.mul_nonneg hxb.1 hyb.1, Int.le_trans (Int.mul_le_mul_of_nonneg_right (Int.le_of_lt hxb.2) hyb.1) (Int.mul_le_mul_of_nonneg_left (Int.le_of_lt hyb.2) (by decide))⟩
   have hs0 : IntKind.i64.wrap (x1 * y1) = x1 * y1 := by rw [IntKind.wrap_i64]; omega
   have hmm := Int.mul_emod x y 8380417
   rw [hx1.out, hy1.out] at hmm
   obtain ⟨s, hs1⟩ := ex_eq (x1 * y1)
   have hs2 : s % 8380417 = F i := by rw [HV.out, ← hs1.out, hmm]
   obtain ⟨v, hv⟩ := ex_eq (s % 8380417)
   have hs : IntKind.i64.wrap (x1 * y1) = s := by rw [hs0]; exact hs1.out
   have hsn : 0 ≤ s := by rw [← hs1.out]; exact hp.1
   have hst : s.tmod 8380417 = v := by rw [Int.tmod_eq_emod_of_nonneg hsn]; exact hv.out
   have hsv : s % 8380417 = v := hv.out
   have Hx : ∀ w1 : World, Calls Tryz.prog 89 #[.int .i64 x] w1 fun e w' => e = .returned (.int .i64 x1) ∧ w' = w1 := fun w1 => by rw [← hx1.out]; exact reduce_any x w1
   have Hy : ∀ w1 : World, Calls Tryz.prog 89 #[.int .i64 y] w1 fun e w' => e = .returned (.int .i64 y1) ∧ w' = w1 := fun w1 => by rw [← hy1.out]; exact reduce_any y w1
   have HU : Away (upd (pt F f i) i v = pt F f (i + 1)) := ⟨pt_upd F f i v (by rw [← hv.out, hs2])⟩
   clear hy hs2 hmm hp hxb hyb hs0
   clear hx
   go_wp2_with fail
   refine still_tail 12 (by kernel_rfl) (by kernel_rfl) ?_
   simp only [List.take_succ_cons, List.take_zero, List.drop_succ_cons, List.drop_zero]
   repeat still_step
   still_call (Hx _)
   repeat still_step
   still_call (Hy _)
   repeat still_step
   refine wpStill_nil ?_
   clear cb
   clear ca
   have A1 : Away (At w.heap.size (FL .i64 256 (pt F f i)) 25 W wr.drew) := ⟨at_drew A0.out⟩
   clear A0
   with_reducible refine wpList_put2 A1 rfl _ _ _ rfl rfl ?_
   refine ⟨_, _, _, rfl, rfl, rfl, by rw [fl_size]; exact hlt, ?_⟩
   intro wn HR
   rw [fl_set, HU.out] at HR
   go_wp2_with fail
   go_roundw
   case rel => exact ⟨i + 1, by omega, by go_num, HR⟩
   case measure => simp [intOf]; omega
  ·obtain rfl : i = 256 := by omega
   simp only [Int.cast_ofNat_Int]
   rw [fl_all, HR.out] at A0
   have Hrow := Away.mk A0.out.row
   have Hres : Away (wr.heap[w.heap.size + 2]? = some (.cells z 25 (0, 0))) := ⟨A0.out.other (by have := HWs.out; omega) (by omega) BR.out⟩
   have HB : Away (Below w.heap.size w wr) := ⟨HWb.out.trans (A0.out.below (by have := HWs.out; omega) (Nat.le_refl _))⟩
   clear A0
   go_wp2_with (first
    | (refine wpList_load_row rfl 25 _ rfl w.heap.size rfl 25 R (0, 0) _ Hrow.out Tryz.underlying25 rfl Ri.out ?_)
    | (refine wpList_store_row rfl 25 _ _ rfl (w.heap.size + 2) R rfl rfl 25 _ Hres.out Ri.out Rz.out Ro.out ?_))
   refine bodyPost_ret_by (v := .agg R) (results_cell_row rfl _ _ (w.heap.size + 2) 25 _ (0, 0) _ rfl (setRow_heap _ _ _ _ _ _ Hres.out) Tryz.underlying25 rfl Ri.out) rfl ?_
   exact ⟨rfl, HB.out.trans (below_setRow _ _ _ (by omega))⟩
end rntimes
namespace rnthere
open Go Go.RowKit
open arr mem stil polys polt nttm nttp nttl
theorem infoT : (Tryz.prog.info? 38).map (·.size) = some 465 := by kernel_rfl
theorem halves (m : Nat) (h : m < 8) : 1 ≤ 128 / 2 ^ m ∧ 128 / 2 ^ m = 2 ^ (7 - m) ∧ 128 / 2 ^ m / 2 = 128 / 2 ^ (m + 1) ∧ 2 * (128 / 2 ^ m) * 2 ^ m = 256 ∧ 2 ^ m ≤ 128 ∧ 1 ≤ 2 ^ m ∧ 128 / 2 ^ m ≤ 128 := by
 have key : ∀ m : Fin 8, 1 ≤ 128 / 2 ^ m.val ∧ 128 / 2 ^ m.val = 2 ^ (7 - m.val) ∧ 128 / 2 ^ m.val / 2 = 128 / 2 ^ (m.val + 1) ∧ 2 * (128 / 2 ^ m.val) * 2 ^ m.val = 256 ∧ 2 ^ m.val ≤ 128 ∧ 1 ≤ 2 ^ m.val ∧ 128 / 2 ^ m.val ≤ 128 := by decide +kernel
 exact key ⟨m, h⟩
theorem mul_red {z y : Int} (hz : 0 ≤ z ∧ z < 8380417) (hy : 0 ≤ y ∧ y < 8380417) : IntKind.i64.wrap (z * y) = z * y ∧ 0 ≤ z * y := by
 have hp : 0 ≤ z * y ∧ z * y ≤ 8380417 * 8380417 := ⟨Int.mul_nonneg hz.1 hy.1, Int.le_trans (Int.mul_le_mul_of_nonneg_right (Int.le_of_lt hz.2) hy.1) (Int.mul_le_mul_of_nonneg_left (Int.le_of_lt hy.2) (by decide))⟩
 exact ⟨by rw [IntKind.wrap_i64]; omega, hp.1⟩
set_option maxRecDepth 100000 in
set_option maxHeartbeats 4000000 in
theorem there_any (T : Array Value) (Z : Nat → Int) (f : Nat → Int) (w : World) (hT : ∀ k, k < 256 → T[209 + k]? = some (.int .i64 (Z k))) :
 Calls Tryz.prog 51 #[.agg T, .agg (FL .i64 256 f)] w fun e w' => e = .returned (.agg (FL .i64 256 (thereR (fun k => Z k % 8380417) 8 f))) ∧ Below w.heap.size w w' := by
 obtain ⟨ζ, hζ⟩ := ex_eq (fun k => Z k % 8380417)
 have Hζ : Away (∀ k, Z k % 8380417 = ζ k) := ⟨fun k => by rw [← hζ.out]⟩
 rw [hζ.out]
 clear hζ
 obtain ⟨hz, hsize⟩ := zero_of_info infoP
 obtain ⟨z, HZ⟩ := ex_eq (FL .i64 256 fun _ => 0)
 rw [HZ.out] at hz
 have Hzs : Away (z.size = 256) := ⟨by rw [← HZ.out]; exact fl_size _ _ _⟩
 obtain ⟨R, HR⟩ := ex_eq (FL .i64 256 (thereR ζ 8 f))
 have Ri : Away ((Tryz.prog.info? 25).map (·.size) = some R.size) := ⟨by rw [← HR.out, fl_size]; exact hsize⟩
 have Ro : Away (R.all (·.oneCell') = true) := ⟨by rw [← HR.out]; exact fl_one _ _ _⟩
 have Rz : Away (z.size = R.size) := ⟨by rw [Hzs.out, ← HR.out, fl_size]⟩
 have HT := Away.mk hT
 have Hred := Away.mk rfld.reduce_any
 rw [HR.out]
 obtain ⟨F, HF⟩ := ex_eq (FL .i64 256 f)
 rw [HF.out]
 obtain ⟨V, hV⟩ : ∃ x, ((w.alloc (.cells T 38)).alloc (.cells F 25)).alloc (.cells z 25) = x := ⟨_, rfl⟩
 obtain ⟨b0, b1, b2, hVs, hVb⟩ := three hV
 have D0 := Away.mk b0
 have D2 := Away.mk b2
 have HVB := Away.mk hVb
 have HVs := Away.mk hVs
 have HV := Away.mk hV
 obtain ⟨r, hr⟩ : ∃ r : Nat → Int, Away (r = red f) := ⟨_, ⟨rfl⟩⟩
 have Hr : Away (∀ i, r i = f i % 8380417) := ⟨fun i => by rw [hr.out]; rfl⟩
 have Hr0 : Away (FL .i64 256 r = FL .i64 256 (thereR ζ 0 f)) := ⟨by rw [hr.out]; rfl⟩
 have A00 : Away (At (w.heap.size + 1) (FL .i64 256 (pt r f 0)) 25 V V) := ⟨by rw [pt_zero, HF.out]; exact At.refl b1⟩
 clear b0 b1 b2 hVs hVb hV HZ hsize hT HF hr
 go_enter Tryz.func51, Tryz.ntmps51
 go_wp2_with (rw [HV.out])
 clear hz
 go_loopw [12] (fun v wr => ∃ i : Nat, i ≤ 256 ∧ v = .int .i64 (i : Int) ∧ Away (At (w.heap.size + 1) (FL .i64 256 (pt r f i)) 25 V wr)) (fun v _ => 256 - (intOf v).toNat)
 case atStart => exact ⟨0, Nat.zero_le _, rfl, A00⟩
 case round =>
  clear A00
  obtain ⟨i, hi, rfl, A0⟩ := hrel
  by_cases hlt : i < 256
  ·have hiz : (i : Int) < 256 := by omega
   obtain ⟨x, hx⟩ : ∃ x, f i = x := ⟨_, rfl⟩
   have ca : wr.cell? ⟨w.heap.size + 1, i, none⟩ = some (.int .i64 x) := by
    have h9 := fl_at A0.out.row i hlt
    rw [pt_at, hx] at h9
    exact h9
   obtain ⟨x1, hx1⟩ := ex_eq (x % 8380417)
   have Hx : ∀ w1 : World, Calls Tryz.prog 89 #[.int .i64 x] w1 fun e w' => e = .returned (.int .i64 x1) ∧ w' = w1 := fun w1 => by rw [← hx1.out]; exact Hred.out x w1
   have HU : Away (upd (pt r f i) i x1 = pt r f (i + 1)) := ⟨pt_upd r f i x1 (by rw [Hr.out, hx, hx1.out])⟩
   have Hx := Away.mk Hx
   clear hx hx1
   go_wp2_with fail
   refine (Hx.out _).mono ?_
   rintro e wr ⟨rfl, rfl⟩
   clear ca
   go_wp2_with ((with_reducible refine wpList_put2 A0 rfl _ _ _ rfl rfl ?_); refine ⟨_, _, _, rfl, rfl, rfl, (by rw [fl_size]; exact hlt), ?_⟩; intro wn HRn; rw [fl_set, HU.out] at HRn)
   go_roundw
   case rel => exact ⟨i + 1, by omega, by go_num, HRn⟩
   case measure => simp [intOf]; omega
  ·obtain rfl : i = 256 := by omega
   simp only [Int.cast_ofNat_Int]
   rw [fl_all, Hr0.out] at A0
   go_wp2_with fail
   rename World => w2
   go_loopw [7, 6] (fun sv k wr => ∃ m : Nat, m ≤ 8 ∧ sv = .int .i64 ((128 / 2 ^ m : Nat) : Int) ∧ k = .int .i64 ((2 ^ m - 1 : Nat) : Int) ∧ Away (At (w.heap.size + 1) (FL .i64 256 (thereR ζ m f)) 25 V wr)) (fun sv _ _ => (intOf sv).toNat)
   case atStart => exact ⟨0, Nat.zero_le _, rfl, rfl, A0⟩
   case round =>
    clear A0
    obtain ⟨m, hm, rfl, rfl, A0⟩ := hrel
    by_cases hlt : m < 8
    ·obtain ⟨h1, h2, h3, h4, h5, h6, h7⟩ := halves m hlt
     obtain ⟨s', hs'⟩ : ∃ s', 128 / 2 ^ (m + 1) = s' := ⟨_, rfl⟩
     obtain ⟨s, hs⟩ : ∃ s, 128 / 2 ^ m = s := ⟨_, rfl⟩
     rw [hs', hs] at h3
     rw [hs] at h1 h2 h4 h7 ⊢
     have hnext : Away (∀ j, j < 256 → dn (ly ζ (2 ^ m) s) s (thereR ζ m f) (2 ^ m * s) j = thereR ζ (m + 1) f j) := ⟨fun j hj => by
      rw [dn_all (ly ζ (2 ^ m) s) (2 ^ m) s (by omega) _ j (by omega), h2]
      rfl⟩
     have hKn : Away (2 ^ (m + 1) - 1 = 2 ^ m - 1 + 2 ^ m) := ⟨by rw [Nat.pow_succ]; omega⟩
     obtain ⟨K, hK⟩ : ∃ K, 2 ^ m = K := ⟨_, rfl⟩
     rw [hK] at hnext hKn h4 h5 h6 ⊢
     obtain ⟨h, hh⟩ := ex_eq (thereR ζ m f)
     have Hh : Away (∀ j, 0 ≤ h j ∧ h j < 8380417) := ⟨fun j => by rw [← hh.out]; exact thereR_red ζ m f j⟩
     rw [hh.out] at hnext A0
     obtain ⟨q, hq⟩ : ∃ q, K - 1 = q := ⟨_, rfl⟩
     have Hq : Away (q + 1 = K) := ⟨by omega⟩
     rw [hq] at hKn ⊢
     have hsz : (1 : Int) ≤ (s : Int) := by omega
     have H4 := Away.mk h4
     have Hs := Away.mk hs'
     have H3 := Away.mk h3
     have Hm := Away.mk hlt
     have Hsb := Away.mk (And.intro h1 h7)
     have HK := Away.mk (And.intro h6 h5)
     clear h1 h2 h3 h4 h5 h6 h7 hs hs' hK hh hq hlt
     go_wp2_with fail
     rename World => w3
     go_loopw [8, 6] (fun fv k wr => ∃ t : Nat, t ≤ K ∧ fv = .int .i64 ((2 * s * t : Nat) : Int) ∧ k = .int .i64 ((q + t : Nat) : Int) ∧ Away (At (w.heap.size + 1) (FL .i64 256 (dn (ly ζ K s) s h (t * s))) 25 V wr)) (fun fv _ _ => 256 - (intOf fv).toNat)
     case atStart => exact ⟨0, Nat.zero_le _, by rw [Nat.mul_zero]; rfl, rfl, ⟨by rw [Nat.zero_mul, dn_zero]; exact A0.out⟩⟩
     case round =>
      clear A0
      obtain ⟨t, ht, rfl, rfl, A1⟩ := hrel
      by_cases hlt2 : t < K
      ·have h256 := H4.out
       obtain ⟨d, hd⟩ : ∃ d, 2 * s = d := ⟨_, rfl⟩
       obtain ⟨b, hb⟩ : ∃ b, 2 * s * t = b := ⟨_, rfl⟩
       have hbd : b + d ≤ 256 := by
        have h1 : d * (t + 1) ≤ d * K := Nat.mul_le_mul_left _ hlt2
        rw [Nat.mul_succ, ← hd, hb] at h1
        omega
       have hbd2 : b + d = 2 * s * (t + 1) := by rw [Nat.mul_succ, hb, hd]
       rw [hb]
       obtain ⟨k, hk⟩ : ∃ k, K + t = k := ⟨_, rfl⟩
       obtain ⟨c, hc⟩ : ∃ c, q + t = c := ⟨_, rfl⟩
       rw [hc]
       have hck : c + 1 = k := by have := Hq.out; omega
       have hk256 : Away (k < 256) := ⟨by have := HK.out; omega⟩
       have hkz : (k : Int) < 256 := by have := hk256.out; omega
       have hbz : (b : Int) < 256 := by have := Hsb.out; omega
       have f1 : IntKind.i64.wrap ((c : Int) + 1) = (k : Int) := by rw [IntKind.wrap_i64]; have := hk256.out; omega
       have f4 : IntKind.i64.wrap (2 * (s : Int)) = (d : Int) := by rw [IntKind.wrap_i64]; have := Hsb.out; omega
       have f5 : IntKind.i64.wrap ((b : Int) + (d : Int)) = ((b + d : Nat) : Int) := by rw [IntKind.wrap_i64]; omega
       obtain ⟨bd, hbdn⟩ : ∃ bd, b + d = bd := ⟨_, rfl⟩
       rw [hbdn] at f5 hbd2
       obtain ⟨bs, hbs⟩ : ∃ bs, b + s = bs := ⟨_, rfl⟩
       have f6 : IntKind.i64.wrap ((b : Int) + (s : Int)) = (bs : Int) := by rw [IntKind.wrap_i64]; have := Hsb.out; omega
       have E0 : wr.heap[w.heap.size]? = some (.cells T 38 (0, 0)) := A1.out.other (lt_of_row D0.out) (by omega) D0.out
       obtain ⟨x, hx⟩ := ex_eq (Z k)
       have cz : wr.cell? ⟨w.heap.size, 209 + k, none⟩ = some (.int .i64 x) := by rw [← hx.out]; exact cell_at E0 (HT.out k hk256.out)
       have Hx : Away (∀ w1 : World, Calls Tryz.prog 89 #[.int .i64 x] w1 fun e w' => e = .returned (.int .i64 (ζ k)) ∧ w1 = w') := ⟨fun w1 => by rw [← Hζ.out k, hx.out]; exact (Hred.out x w1).mono fun _ _ h => ⟨h.1, h.2.symm⟩⟩
       obtain ⟨y, hy⟩ := ex_eq (ζ k)
       have Hyb : Away (0 ≤ y ∧ y < 8380417) := ⟨by rw [← hy.out, ← Hζ.out k]; exact ⟨Int.emod_nonneg _ (by decide), Int.emod_lt_of_pos _ (by decide)⟩⟩
       rw [hy.out] at Hx
       have Hly : Away (∀ p, p < s → ly ζ K s h (2 * s * t + p) = h (b + p) + y * h (b + p + s) ∧ ly ζ K s h (2 * s * t + p + s) = h (b + p) - y * h (b + p + s)) := ⟨fun p hp => by
        have h9 := ly_pair ζ K (t := t) hp h
        rw [hk, hy.out, hb] at h9
        rw [hb]
        exact h9⟩
       have Hb := Away.mk hb
       have Hbd := Away.mk hbd2
       have Hle : Away (bd ≤ 256 ∧ bs = b + s ∧ bd = b + d ∧ d = 2 * s) := ⟨by omega⟩
       have Hk := Away.mk (show q + (t + 1) = k by omega)
       have Ht := Away.mk hlt2
       clear hd hb hbd hbd2 hbdn hbs hk hc hck E0 hx hy h256 hlt2
       go_wp2_with fail
       refine (Hx.out _).mono ?_
       rintro e w5 ⟨rfl, rfl⟩
       clear cz
       go_wp2_with fail
       rename World => w4
       go_loopw [10] (fun iv wr => ∃ p : Nat, p ≤ s ∧ iv = .int .i64 ((b + p : Nat) : Int) ∧ Away (At (w.heap.size + 1) (FL .i64 256 (dn (ly ζ K s) s h (t * s + p))) 25 V wr)) (fun iv _ => 256 - (intOf iv).toNat)
       case atStart => exact ⟨0, Nat.zero_le _, rfl, A1⟩
       case round =>
        clear A1
        obtain ⟨p, hp, rfl, A2⟩ := hrel
        obtain ⟨lo, hlo⟩ : ∃ lo, b + p = lo := ⟨_, rfl⟩
        rw [hlo]
        by_cases hlt3 : p < s
        ·have hle := Hle.out
         obtain ⟨hi, hhi⟩ : ∃ hi, lo + s = hi := ⟨_, rfl⟩
         have hloz : (lo : Int) < (bs : Int) := by omega
         have elo : 2 * s * t + p = lo := by rw [Hb.out]; exact hlo
         have ehi : 2 * s * t + p + s = hi := by rw [elo]; exact hhi
         have hiz : (hi : Int) < 256 := by omega
         have loz : (lo : Int) < 256 := by omega
         have Hhi : Away (hi < 256) := ⟨by omega⟩
         have Hlo : Away (lo < 256) := ⟨by omega⟩
         have g2 : IntKind.i64.wrap ((lo : Int) + (s : Int)) = (hi : Int) := by rw [IntKind.wrap_i64]; omega
         obtain ⟨a0, ha⟩ : ∃ a0, h lo = a0 := ⟨_, rfl⟩
         obtain ⟨c0, hcc⟩ : ∃ c0, h hi = c0 := ⟨_, rfl⟩
         have hab : 0 ≤ a0 ∧ a0 < 8380417 := by rw [← ha]; exact Hh.out lo
         have hcb : 0 ≤ c0 ∧ c0 < 8380417 := by rw [← hcc]; exact Hh.out hi
         have cx : wr.cell? ⟨w.heap.size + 1, lo, none⟩ = some (.int .i64 a0) := by
          have h9 := fl_at A2.out.row lo Hlo.out
          rw [← elo, dn_lo (ly ζ K s) hlt3, elo, ha] at h9
          exact h9
         have cy : wr.cell? ⟨w.heap.size + 1, hi, none⟩ = some (.int .i64 c0) := by
          have h9 := fl_at A2.out.row hi Hhi.out
          rw [← ehi, dn_hi (ly ζ K s) hlt3, ehi, hcc] at h9
          exact h9
         have hP := Hly.out p hlt3
         rw [ehi, elo, hlo, hhi, ha, hcc] at hP
         obtain ⟨g3, g3n⟩ := mul_red Hyb.out hcb
         obtain ⟨pr, hpr⟩ : ∃ pr, y * c0 = pr := ⟨_, rfl⟩
         rw [hpr] at g3 g3n hP
         have g3' : IntKind.i64.wrap (y * c0) = pr := by rw [hpr]; exact g3
         obtain ⟨xx, hxx⟩ : ∃ xx, pr % 8380417 = xx := ⟨_, rfl⟩
         have hxb : 0 ≤ xx ∧ xx < 8380417 := by omega
         have g4 : pr.tmod 8380417 = xx := by rw [Int.tmod_eq_emod_of_nonneg g3n]; exact hxx
         have g5 : IntKind.i64.wrap (a0 + xx) = a0 + xx := by rw [IntKind.wrap_i64]; omega
         have g6 : IntKind.i64.wrap (a0 - xx) = a0 - xx := by rw [IntKind.wrap_i64]; omega
         obtain ⟨v1, hv1⟩ := ex_eq ((a0 + xx) % 8380417)
         obtain ⟨v2, hv2⟩ := ex_eq ((a0 - xx) % 8380417)
         have H1 : Away (∀ w1 : World, Calls Tryz.prog 89 #[.int .i64 (a0 + xx)] w1 fun e w' => e = .returned (.int .i64 v1) ∧ w' = w1) := ⟨fun w1 => by rw [← hv1.out]; exact Hred.out _ w1⟩
         have H2 : Away (∀ w1 : World, Calls Tryz.prog 89 #[.int .i64 (a0 - xx)] w1 fun e w' => e = .returned (.int .i64 v2) ∧ w' = w1) := ⟨fun w1 => by rw [← hv2.out]; exact Hred.out _ w1⟩
         have HU : Away (upd (upd (dn (ly ζ K s) s h (t * s + p)) hi v2) lo v1 = dn (ly ζ K s) s h (t * s + (p + 1))) := ⟨by
          have h9 := (dn_step (t := t) (ly ζ K s) hlt3 h v1 v2 (by rw [elo, hP.1, ← hv1.out]; omega) (by rw [ehi, hP.2, ← hv2.out]; omega)).1
          rw [elo, hhi] at h9
          exact h9⟩
         have HUlo : Away (upd (dn (ly ζ K s) s h (t * s + p)) hi v2 lo = a0) := ⟨by
          unfold upd
          rw [if_neg (by omega), ← elo, dn_lo (ly ζ K s) hlt3, elo, ha]⟩
         have Hp := Away.mk hlt3
         have Hlo2 := Away.mk hlo
         clear ha hcc hab hcb hP hpr hxx hxb hv1 hv2 elo ehi hlo hhi hle g3 g3n hlt3
         go_wp2_with fail
         refine (H2.out _).mono ?_
         rintro e wr ⟨rfl, rfl⟩
         clear cx cy
         go_wp2_with ((with_reducible refine wpList_put2 A2 rfl _ _ _ rfl rfl ?_); refine ⟨_, _, _, rfl, rfl, rfl, (by rw [fl_size]; exact Hhi.out), ?_⟩; intro wn A3; rw [fl_set] at A3; have cx : wn.cell? ⟨w.heap.size + 1, lo, none⟩ = some (.int .i64 a0) := by rw [fl_at A3.out.row lo Hlo.out, HUlo.out])
         refine (H1.out _).mono ?_
         rintro e wn ⟨rfl, rfl⟩
         clear cx
         go_wp2_with ((with_reducible refine wpList_put2 A3 rfl _ _ _ rfl rfl ?_); refine ⟨_, _, _, rfl, rfl, rfl, (by rw [fl_size]; exact Hlo.out), ?_⟩; intro wm A4; rw [fl_set, HU.out] at A4)
         go_roundw
         case rel => exact ⟨p + 1, by have := Hp.out; omega, by rw [show ((b + (p + 1) : Nat) : Int) = (lo : Int) + 1 by have := Hlo2.out; omega], A4⟩
         case measure => have := Hlo.out; simp [intOf]; omega
        ·obtain rfl : p = s := by omega
         have hloz : ¬ (lo : Int) < (bs : Int) := by have := Hle.out; omega
         have A3 : Away (At (w.heap.size + 1) (FL .i64 256 (dn (ly ζ K p) p h ((t + 1) * p))) 25 V wr) := ⟨by rw [Nat.succ_mul]; exact A2.out⟩
         clear A2 hlo
         go_wp2_with fail
         go_roundw
         case rel => exact ⟨t + 1, by have := Ht.out; omega, by rw [Hbd.out], by rw [Hk.out], A3⟩
         case measure => have := Hle.out; have := Hsb.out; simp [intOf]; omega
      ·obtain rfl : t = K := by omega
       have h256 := H4.out
       rw [h256]
       rw [show FL .i64 256 (dn (ly ζ t s) s h (t * s)) = FL .i64 256 (thereR ζ (m + 1) f) from fl_congr .i64 256 hnext.out] at A1
       have d1 : (s : Int).tdiv 2 = (s' : Int) := by rw [Int.tdiv_eq_ediv_of_nonneg (by omega)]; have := H3.out; omega
       have d2 : (s : Int) / 2 = (s' : Int) := by have := H3.out; omega
       have d3 : IntKind.i64.wrap ((s : Int).tdiv 2) = (s' : Int) := by rw [d1, IntKind.wrap_i64]; have := Hsb.out; have := H3.out; omega
       have d4 : IntKind.i64.wrap (s' : Int) = (s' : Int) := by rw [IntKind.wrap_i64]; have := Hsb.out; have := H3.out; omega
       go_wp2_with fail
       go_roundw
       case rel => exact ⟨m + 1, by have := Hm.out; omega, by rw [Hs.out], by rw [hKn.out], A1⟩
       case measure => have := Hsb.out; have := H3.out; simp [intOf]; omega
    ·obtain rfl : m = 8 := by omega
     rw [HR.out] at A0
     have Hrow := Away.mk A0.out.row
     have Hres : Away (wr.heap[w.heap.size + 2]? = some (.cells z 25 (0, 0))) := ⟨A0.out.other (lt_of_row D2.out) (by omega) D2.out⟩
     have HB : Away (Below w.heap.size w wr) := ⟨HVB.out.trans (A0.out.below (by have := HVs.out; omega) (by omega))⟩
     clear A0
     have e0 : ((128 / 2 ^ 8 : Nat) : Int) = 0 := by decide
     rw [e0]
     go_wp2_with (first
      | (refine wpList_load_row rfl 25 _ rfl (w.heap.size + 1) rfl 25 R (0, 0) _ Hrow.out Tryz.underlying25 rfl Ri.out ?_)
      | (refine wpList_store_row rfl 25 _ _ rfl (w.heap.size + 2) R rfl rfl 25 _ Hres.out Ri.out Rz.out Ro.out ?_))
     refine bodyPost_ret_by (v := .agg R) (results_cell_row rfl _ _ (w.heap.size + 2) 25 _ (0, 0) _ rfl (setRow_heap _ _ _ _ _ _ Hres.out) Tryz.underlying25 rfl Ri.out) rfl ?_
     exact ⟨rfl, HB.out.trans (below_setRow _ _ _ (by omega))⟩
end rnthere
namespace rnback
open Go Go.RowKit
open arr mem stil polys polt nttm nttp nttl rnthere
theorem doubles (m : Nat) (h : m < 8) : 2 * 2 ^ m = 2 ^ (m + 1) ∧ 2 * 2 ^ m * 2 ^ (7 - m) = 256 ∧ 2 ^ m ≤ 128 ∧ 1 ≤ 2 ^ m ∧ 1 ≤ 2 ^ (7 - m) ∧ 2 ^ (7 - m) ≤ 128 ∧ 2 ^ (8 - m) = 2 * 2 ^ (7 - m) ∧ 2 ^ (8 - (m + 1)) = 2 ^ (7 - m) := by
 have key : ∀ m : Fin 8, 2 * 2 ^ m.val = 2 ^ (m.val + 1) ∧ 2 * 2 ^ m.val * 2 ^ (7 - m.val) = 256 ∧ 2 ^ m.val ≤ 128 ∧ 1 ≤ 2 ^ m.val ∧ 1 ≤ 2 ^ (7 - m.val) ∧ 2 ^ (7 - m.val) ≤ 128 ∧ 2 ^ (8 - m.val) = 2 * 2 ^ (7 - m.val) ∧ 2 ^ (8 - (m.val + 1)) = 2 ^ (7 - m.val) := by decide +kernel
 exact key ⟨m, h⟩
set_option maxRecDepth 100000 in
set_option maxHeartbeats 4000000 in
theorem back_any (T : Array Value) (Z : Nat → Int) (f : Nat → Int) (w : World) (hT : ∀ k, k < 256 → T[209 + k]? = some (.int .i64 (Z k))) :
 Calls Tryz.prog 53 #[.agg T, .agg (FL .i64 256 f)] w fun e w' => e = .returned (.agg (FL .i64 256 (fun i => (backR (fun k => Z k % 8380417) 8 f i * 8347681) % 8380417))) ∧ Below w.heap.size w w' := by
 obtain ⟨ζ, hζ⟩ := ex_eq (fun k => Z k % 8380417)
 have Hζ : Away (∀ k, Z k % 8380417 = ζ k) := ⟨fun k => by rw [← hζ.out]⟩
 rw [hζ.out]
 clear hζ
 obtain ⟨hz, hsize⟩ := zero_of_info infoP
 obtain ⟨z, HZ⟩ := ex_eq (FL .i64 256 fun _ => 0)
 rw [HZ.out] at hz
 have Hzs : Away (z.size = 256) := ⟨by rw [← HZ.out]; exact fl_size _ _ _⟩
 obtain ⟨R, HR⟩ := ex_eq (FL .i64 256 (fun i => (backR ζ 8 f i * 8347681) % 8380417))
 obtain ⟨B, HB0⟩ := ex_eq (FL .i64 256 (backR ζ 8 f))
 have Bi : Away ((Tryz.prog.info? 25).map (·.size) = some B.size) := ⟨by rw [← HB0.out, fl_size]; exact hsize⟩
 have HSc : Away (∀ w1 : World, Calls Tryz.prog 94 #[.agg B, .int .i64 8347681] w1 fun e w' => e = .returned (.agg R) ∧ Below w1.heap.size w1 w') := ⟨fun w1 => by
  have h := rscale.scale_any (backR ζ 8 f) 8347681 w1
  rw [HB0.out, HR.out] at h
  exact h⟩
 have Ri : Away ((Tryz.prog.info? 25).map (·.size) = some R.size) := ⟨by rw [← HR.out, fl_size]; exact hsize⟩
 have Ro : Away (R.all (·.oneCell') = true) := ⟨by rw [← HR.out]; exact fl_one _ _ _⟩
 have Rz : Away (z.size = R.size) := ⟨by rw [Hzs.out, ← HR.out, fl_size]⟩
 have HT := Away.mk hT
 have Hred := Away.mk rfld.reduce_any
 rw [HR.out]
 obtain ⟨F, HF⟩ := ex_eq (FL .i64 256 f)
 rw [HF.out]
 obtain ⟨V, hV⟩ : ∃ x, ((w.alloc (.cells T 38)).alloc (.cells F 25)).alloc (.cells z 25) = x := ⟨_, rfl⟩
 obtain ⟨b0, b1, b2, hVs, hVb⟩ := three hV
 have D0 := Away.mk b0
 have D2 := Away.mk b2
 have HVB := Away.mk hVb
 have HVs := Away.mk hVs
 have HV := Away.mk hV
 obtain ⟨r, hr⟩ : ∃ r : Nat → Int, Away (r = red f) := ⟨_, ⟨rfl⟩⟩
 have Hr : Away (∀ i, r i = f i % 8380417) := ⟨fun i => by rw [hr.out]; rfl⟩
 have Hr0 : Away (FL .i64 256 r = FL .i64 256 (backR ζ 0 f)) := ⟨by rw [hr.out]; rfl⟩
 have A00 : Away (At (w.heap.size + 1) (FL .i64 256 (pt r f 0)) 25 V V) := ⟨by rw [pt_zero, HF.out]; exact At.refl b1⟩
 clear b0 b1 b2 hVs hVb hV HZ hsize hT HF hr
 go_enter Tryz.func53, Tryz.ntmps53
 go_wp2_with (rw [HV.out])
 clear hz
 go_loopw [12] (fun v wr => ∃ i : Nat, i ≤ 256 ∧ v = .int .i64 (i : Int) ∧ Away (At (w.heap.size + 1) (FL .i64 256 (pt r f i)) 25 V wr)) (fun v _ => 256 - (intOf v).toNat)
 case atStart => exact ⟨0, Nat.zero_le _, rfl, A00⟩
 case round =>
  clear A00
  obtain ⟨i, hi, rfl, A0⟩ := hrel
  by_cases hlt : i < 256
  ·have hiz : (i : Int) < 256 := by omega
   obtain ⟨x, hx⟩ : ∃ x, f i = x := ⟨_, rfl⟩
   have ca : wr.cell? ⟨w.heap.size + 1, i, none⟩ = some (.int .i64 x) := by
    have h9 := fl_at A0.out.row i hlt
    rw [pt_at, hx] at h9
    exact h9
   obtain ⟨x1, hx1⟩ := ex_eq (x % 8380417)
   have Hx : ∀ w1 : World, Calls Tryz.prog 89 #[.int .i64 x] w1 fun e w' => e = .returned (.int .i64 x1) ∧ w' = w1 := fun w1 => by rw [← hx1.out]; exact Hred.out x w1
   have HU : Away (upd (pt r f i) i x1 = pt r f (i + 1)) := ⟨pt_upd r f i x1 (by rw [Hr.out, hx, hx1.out])⟩
   have Hx := Away.mk Hx
   clear hx hx1
   go_wp2_with fail
   refine (Hx.out _).mono ?_
   rintro e wr ⟨rfl, rfl⟩
   clear ca
   go_wp2_with ((with_reducible refine wpList_put2 A0 rfl _ _ _ rfl rfl ?_); refine ⟨_, _, _, rfl, rfl, rfl, (by rw [fl_size]; exact hlt), ?_⟩; intro wn HRn; rw [fl_set, HU.out] at HRn)
   go_roundw
   case rel => exact ⟨i + 1, by omega, by go_num, HRn⟩
   case measure => simp [intOf]; omega
  ·obtain rfl : i = 256 := by omega
   simp only [Int.cast_ofNat_Int]
   rw [fl_all, Hr0.out] at A0
   go_wp2_with fail
   rename World => w2
   go_loopw [7, 6] (fun sv k wr => ∃ m : Nat, m ≤ 8 ∧ sv = .int .i64 ((2 ^ m : Nat) : Int) ∧ k = .int .i64 ((2 ^ (8 - m) : Nat) : Int) ∧ Away (At (w.heap.size + 1) (FL .i64 256 (backR ζ m f)) 25 V wr)) (fun sv _ _ => 256 - (intOf sv).toNat)
   case atStart => exact ⟨0, Nat.zero_le _, rfl, rfl, A0⟩
   case round =>
    clear A0
    obtain ⟨m, hm, rfl, rfl, A0⟩ := hrel
    by_cases hlt : m < 8
    ·obtain ⟨h1, h2, h3, h4, h5, h6, h7, h8⟩ := doubles m hlt
     have hnext : Away (∀ j, j < 256 → dn (bk ζ (2 ^ (7 - m)) (2 ^ m)) (2 ^ m) (backR ζ m f) (2 ^ (7 - m) * 2 ^ m) j = backR ζ (m + 1) f j) := ⟨fun j hj => by
      rw [dn_all (bk ζ (2 ^ (7 - m)) (2 ^ m)) (2 ^ (7 - m)) (2 ^ m) (by omega) _ j (by omega)]
      rfl⟩
     obtain ⟨s', hs'⟩ : ∃ s', 2 ^ (m + 1) = s' := ⟨_, rfl⟩
     obtain ⟨s, hs⟩ : ∃ s, 2 ^ m = s := ⟨_, rfl⟩
     obtain ⟨K, hK⟩ : ∃ K, 2 ^ (7 - m) = K := ⟨_, rfl⟩
     rw [hs', hs] at h1
     rw [hs, hK] at h2 hnext
     rw [hs] at h3 h4 ⊢
     rw [hK] at h5 h6 h7 h8
     rw [h7]
     obtain ⟨h, hh⟩ := ex_eq (backR ζ m f)
     have Hh : Away (∀ j, 0 ≤ h j ∧ h j < 8380417) := ⟨fun j => by rw [← hh.out]; exact backR_red ζ m f j⟩
     rw [hh.out] at hnext A0
     obtain ⟨q, hq⟩ : ∃ q, 2 * K = q := ⟨_, rfl⟩
     have Hq : Away (q = 2 * K) := ⟨hq.symm⟩
     rw [hq]
     have hsz : (s : Int) ≤ 128 := by omega
     have H4 := Away.mk h2
     have Hs := Away.mk hs'
     have H3 := Away.mk h1
     have Hm := Away.mk hlt
     have Hsb := Away.mk (And.intro h4 h3)
     have HK := Away.mk (And.intro h5 h6)
     have H8 := Away.mk h8
     clear h1 h2 h3 h4 h5 h6 h7 h8 hs hs' hK hh hq hlt
     go_wp2_with fail
     rename World => w3
     go_loopw [8, 6] (fun fv k wr => ∃ t : Nat, t ≤ K ∧ fv = .int .i64 ((2 * s * t : Nat) : Int) ∧ k = .int .i64 ((q - t : Nat) : Int) ∧ Away (At (w.heap.size + 1) (FL .i64 256 (dn (bk ζ K s) s h (t * s))) 25 V wr)) (fun fv _ _ => 256 - (intOf fv).toNat)
     case atStart => exact ⟨0, Nat.zero_le _, by rw [Nat.mul_zero]; rfl, rfl, ⟨by rw [Nat.zero_mul, dn_zero]; exact A0.out⟩⟩
     case round =>
      clear A0
      obtain ⟨t, ht, rfl, rfl, A1⟩ := hrel
      by_cases hlt2 : t < K
      ·have h256 := H4.out
       obtain ⟨d, hd⟩ : ∃ d, 2 * s = d := ⟨_, rfl⟩
       obtain ⟨b, hb⟩ : ∃ b, 2 * s * t = b := ⟨_, rfl⟩
       have hbd : b + d ≤ 256 := by
        have h1 : d * (t + 1) ≤ d * K := Nat.mul_le_mul_left _ hlt2
        rw [Nat.mul_succ, ← hd, hb] at h1
        omega
       have hbd2 : b + d = 2 * s * (t + 1) := by rw [Nat.mul_succ, hb, hd]
       rw [hb]
       obtain ⟨k, hk⟩ : ∃ k, 2 * K - 1 - t = k := ⟨_, rfl⟩
       obtain ⟨c, hc⟩ : ∃ c, q - t = c := ⟨_, rfl⟩
       rw [hc]
       have hck : k + 1 = c := by have := Hq.out; omega
       have hk256 : Away (k < 256) := ⟨by have := HK.out; omega⟩
       have hkz : (k : Int) < 256 := by have := hk256.out; omega
       have hbz : (b : Int) < 256 := by have := Hsb.out; omega
       have f1 : IntKind.i64.wrap ((c : Int) - 1) = (k : Int) := by rw [IntKind.wrap_i64]; have := hk256.out; omega
       have f4 : IntKind.i64.wrap (2 * (s : Int)) = (d : Int) := by rw [IntKind.wrap_i64]; have := Hsb.out; omega
       have f5 : IntKind.i64.wrap ((b : Int) + (d : Int)) = ((b + d : Nat) : Int) := by rw [IntKind.wrap_i64]; omega
       obtain ⟨bd, hbdn⟩ : ∃ bd, b + d = bd := ⟨_, rfl⟩
       rw [hbdn] at f5 hbd2
       obtain ⟨bs, hbs⟩ : ∃ bs, b + s = bs := ⟨_, rfl⟩
       have f6 : IntKind.i64.wrap ((b : Int) + (s : Int)) = (bs : Int) := by rw [IntKind.wrap_i64]; have := Hsb.out; omega
       have E0 : wr.heap[w.heap.size]? = some (.cells T 38 (0, 0)) := A1.out.other (lt_of_row D0.out) (by omega) D0.out
       obtain ⟨x, hx⟩ := ex_eq (Z k)
       have cz : wr.cell? ⟨w.heap.size, 209 + k, none⟩ = some (.int .i64 x) := by rw [← hx.out]; exact cell_at E0 (HT.out k hk256.out)
       obtain ⟨y0, hy0⟩ := ex_eq (ζ k)
       have Hx : Away (∀ w1 : World, Calls Tryz.prog 89 #[.int .i64 x] w1 fun e w' => e = .returned (.int .i64 y0) ∧ w1 = w') := ⟨fun w1 => by rw [← hy0.out, ← Hζ.out k, hx.out]; exact (Hred.out x w1).mono fun _ _ h => ⟨h.1, h.2.symm⟩⟩
       have hy0b : 0 ≤ y0 ∧ y0 < 8380417 := by rw [← hy0.out, ← Hζ.out k]; exact ⟨Int.emod_nonneg _ (by decide), Int.emod_lt_of_pos _ (by decide)⟩
       have f9 : IntKind.i64.wrap (-y0) = -y0 := by rw [IntKind.wrap_i64]; omega
       obtain ⟨y, hy⟩ := ex_eq ((-y0) % 8380417)
       have Hyb : Away (0 ≤ y ∧ y < 8380417) := ⟨by rw [← hy.out]; exact ⟨Int.emod_nonneg _ (by decide), Int.emod_lt_of_pos _ (by decide)⟩⟩
       have Hx2 : Away (∀ w1 : World, Calls Tryz.prog 89 #[.int .i64 (-y0)] w1 fun e w' => e = .returned (.int .i64 y) ∧ w1 = w') := ⟨fun w1 => by rw [← hy.out]; exact (Hred.out _ w1).mono fun _ _ h => ⟨h.1, h.2.symm⟩⟩
       have Hly : Away (∀ p, p < s → bk ζ K s h (2 * s * t + p) = h (b + p) + h (b + p + s) ∧ ∀ d, d = (h (b + p) - h (b + p + s)) % 8380417 → (y * d) % 8380417 = bk ζ K s h (2 * s * t + p + s) % 8380417) := ⟨fun p hp => by
        have h9 := bk_pair ζ K (t := t) hp h
        rw [hk, hy0.out, hb] at h9
        refine ⟨by rw [hb]; exact h9.1, fun d hd => ?_⟩
        rw [hb, h9.2, hd, ← hy.out, ← Int.mul_emod]⟩
       have Hb := Away.mk hb
       have Hbd := Away.mk hbd2
       have Hle : Away (bd ≤ 256 ∧ bs = b + s ∧ bd = b + d ∧ d = 2 * s) := ⟨by omega⟩
       have Hk := Away.mk (show q - (t + 1) = k by omega)
       have Ht := Away.mk hlt2
       clear hd hb hbd hbd2 hbdn hbs hk hc hck E0 hx hy hy0 hy0b h256 hlt2
       go_wp2_with fail
       refine (Hx.out _).mono ?_
       rintro e w5 ⟨rfl, rfl⟩
       clear cz
       go_wp2_with fail
       refine (Hx2.out _).mono ?_
       rintro e w5 ⟨rfl, rfl⟩
       clear f9
       go_wp2_with fail
       rename World => w4
       go_loopw [10] (fun iv wr => ∃ p : Nat, p ≤ s ∧ iv = .int .i64 ((b + p : Nat) : Int) ∧ Away (At (w.heap.size + 1) (FL .i64 256 (dn (bk ζ K s) s h (t * s + p))) 25 V wr)) (fun iv _ => 256 - (intOf iv).toNat)
       case atStart => exact ⟨0, Nat.zero_le _, rfl, A1⟩
       case round =>
        clear A1
        obtain ⟨p, hp, rfl, A2⟩ := hrel
        obtain ⟨lo, hlo⟩ : ∃ lo, b + p = lo := ⟨_, rfl⟩
        rw [hlo]
        by_cases hlt3 : p < s
        ·have hle := Hle.out
         obtain ⟨hi, hhi⟩ : ∃ hi, lo + s = hi := ⟨_, rfl⟩
         have hloz : (lo : Int) < (bs : Int) := by omega
         have elo : 2 * s * t + p = lo := by rw [Hb.out]; exact hlo
         have ehi : 2 * s * t + p + s = hi := by rw [elo]; exact hhi
         have hiz : (hi : Int) < 256 := by omega
         have loz : (lo : Int) < 256 := by omega
         have Hhi : Away (hi < 256) := ⟨by omega⟩
         have Hlo : Away (lo < 256) := ⟨by omega⟩
         have g2 : IntKind.i64.wrap ((lo : Int) + (s : Int)) = (hi : Int) := by rw [IntKind.wrap_i64]; omega
         obtain ⟨a0, ha⟩ : ∃ a0, h lo = a0 := ⟨_, rfl⟩
         obtain ⟨c0, hcc⟩ : ∃ c0, h hi = c0 := ⟨_, rfl⟩
         have hab : 0 ≤ a0 ∧ a0 < 8380417 := by rw [← ha]; exact Hh.out lo
         have hcb : 0 ≤ c0 ∧ c0 < 8380417 := by rw [← hcc]; exact Hh.out hi
         have cx : wr.cell? ⟨w.heap.size + 1, lo, none⟩ = some (.int .i64 a0) := by
          have h9 := fl_at A2.out.row lo Hlo.out
          rw [← elo, dn_lo (bk ζ K s) hlt3, elo, ha] at h9
          exact h9
         have cy : wr.cell? ⟨w.heap.size + 1, hi, none⟩ = some (.int .i64 c0) := by
          have h9 := fl_at A2.out.row hi Hhi.out
          rw [← ehi, dn_hi (bk ζ K s) hlt3, ehi, hcc] at h9
          exact h9
         have hP := Hly.out p hlt3
         rw [ehi, elo, hlo, hhi, ha, hcc] at hP
         obtain ⟨dd, hdd⟩ := ex_eq ((a0 - c0) % 8380417)
         have hdb : 0 ≤ dd ∧ dd < 8380417 := by rw [← hdd.out]; omega
         obtain ⟨g3, g3n⟩ := mul_red Hyb.out hdb
         have hP2 := hP.2 dd hdd.out.symm
         obtain ⟨pr, hpr⟩ : ∃ pr, y * dd = pr := ⟨_, rfl⟩
         rw [hpr] at g3 g3n hP2
         have g3' : IntKind.i64.wrap (y * dd) = pr := by rw [hpr]; exact g3
         obtain ⟨v2, hv2⟩ : ∃ xx, pr % 8380417 = xx := ⟨_, rfl⟩
         have g4 : pr.tmod 8380417 = v2 := by rw [Int.tmod_eq_emod_of_nonneg g3n]; exact hv2
         have g5 : IntKind.i64.wrap (a0 + c0) = a0 + c0 := by rw [IntKind.wrap_i64]; omega
         have g6 : IntKind.i64.wrap (a0 - c0) = a0 - c0 := by rw [IntKind.wrap_i64]; omega
         obtain ⟨v1, hv1⟩ := ex_eq ((a0 + c0) % 8380417)
         have H1 : Away (∀ w1 : World, Calls Tryz.prog 89 #[.int .i64 (a0 + c0)] w1 fun e w' => e = .returned (.int .i64 v1) ∧ w' = w1) := ⟨fun w1 => by rw [← hv1.out]; exact Hred.out _ w1⟩
         have H2 : Away (∀ w1 : World, Calls Tryz.prog 89 #[.int .i64 (a0 - c0)] w1 fun e w' => e = .returned (.int .i64 dd) ∧ w' = w1) := ⟨fun w1 => by rw [← hdd.out]; exact Hred.out _ w1⟩
         have HU : Away (upd (upd (dn (bk ζ K s) s h (t * s + p)) lo v1) hi v2 = dn (bk ζ K s) s h (t * s + (p + 1))) := ⟨by
          have h9 := (dn_step (t := t) (bk ζ K s) hlt3 h v1 v2 (by rw [elo, hP.1, ← hv1.out]) (by rw [ehi, ← hP2, hv2])).2
          rw [elo, hhi] at h9
          exact h9⟩
         have HUhi : Away (upd (dn (bk ζ K s) s h (t * s + p)) lo v1 hi = c0) := ⟨by
          unfold upd
          rw [if_neg (by omega), ← ehi, dn_hi (bk ζ K s) hlt3, ehi, hcc]⟩
         have Hp := Away.mk hlt3
         have Hlo2 := Away.mk hlo
         clear ha hcc hab hcb hP hP2 hpr hdb hdd hv1 hv2 elo ehi hlo hhi hle g3 g3n hlt3
         go_wp2_with fail
         refine (H1.out _).mono ?_
         rintro e wr ⟨rfl, rfl⟩
         clear cx cy
         go_wp2_with ((with_reducible refine wpList_put2 A2 rfl _ _ _ rfl rfl ?_); refine ⟨_, _, _, rfl, rfl, rfl, (by rw [fl_size]; exact Hlo.out), ?_⟩; intro wn A3; rw [fl_set] at A3; have cy : wn.cell? ⟨w.heap.size + 1, hi, none⟩ = some (.int .i64 c0) := by rw [fl_at A3.out.row hi Hhi.out, HUhi.out])
         refine (H2.out _).mono ?_
         rintro e wn ⟨rfl, rfl⟩
         clear cy
         go_wp2_with ((with_reducible refine wpList_put2 A3 rfl _ _ _ rfl rfl ?_); refine ⟨_, _, _, rfl, rfl, rfl, (by rw [fl_size]; exact Hhi.out), ?_⟩; intro wm A4; rw [fl_set, HU.out] at A4)
         go_roundw
         case rel => exact ⟨p + 1, by have := Hp.out; omega, by rw [show ((b + (p + 1) : Nat) : Int) = (lo : Int) + 1 by have := Hlo2.out; omega], A4⟩
         case measure => have := Hlo.out; simp [intOf]; omega
        ·obtain rfl : p = s := by omega
         have hloz : ¬ (lo : Int) < (bs : Int) := by have := Hle.out; omega
         have A3 : Away (At (w.heap.size + 1) (FL .i64 256 (dn (bk ζ K p) p h ((t + 1) * p))) 25 V wr) := ⟨by rw [Nat.succ_mul]; exact A2.out⟩
         clear A2 hlo
         go_wp2_with fail
         go_roundw
         case rel => exact ⟨t + 1, by have := Ht.out; omega, by rw [Hbd.out], by rw [Hk.out], A3⟩
         case measure => have := Hle.out; have := Hsb.out; simp [intOf]; omega
      ·obtain rfl : t = K := by omega
       have h256 := H4.out
       rw [h256]
       rw [show FL .i64 256 (dn (bk ζ t s) s h (t * s)) = FL .i64 256 (backR ζ (m + 1) f) from fl_congr .i64 256 hnext.out] at A1
       have d1 : IntKind.i64.wrap ((s : Int) * 2) = (s' : Int) := by rw [IntKind.wrap_i64]; have := Hsb.out; have := H3.out; omega
       have hKq : Away ((q - t : Nat) = 2 ^ (8 - (m + 1))) := ⟨by rw [H8.out]; have := Hq.out; omega⟩
       go_wp2_with fail
       go_roundw
       case rel => exact ⟨m + 1, by have := Hm.out; omega, by rw [Hs.out], by rw [hKq.out], A1⟩
       case measure => have := Hsb.out; have := H3.out; simp [intOf]; omega
    ·obtain rfl : m = 8 := by omega
     rw [HB0.out] at A0
     have Hrow := Away.mk A0.out.row
     have Hres : Away (wr.heap[w.heap.size + 2]? = some (.cells z 25 (0, 0))) := ⟨A0.out.other (lt_of_row D2.out) (by omega) D2.out⟩
     have HB : Away (Below w.heap.size w wr) := ⟨HVB.out.trans (A0.out.below (by have := HVs.out; omega) (by omega))⟩
     clear A0
     have e0 : ((2 ^ 8 : Nat) : Int) = 256 := by decide
     rw [e0]
     go_wp2_with (refine wpList_load_row rfl 25 _ rfl (w.heap.size + 1) rfl 25 B (0, 0) _ Hrow.out Tryz.underlying25 rfl Bi.out ?_)
     refine (HSc.out _).mono ?_
     rintro e w9 ⟨rfl, hb9⟩
     have Hres9 : Away (w9.heap[w.heap.size + 2]? = some (.cells z 25 (0, 0))) := ⟨(hb9.block _ (lt_of_row Hres.out)).trans Hres.out⟩
     have HB9 : Away (Below w.heap.size w w9) := ⟨HB.out.trans (hb9.mono HB.out.size)⟩
     clear hb9
     go_wp2_with (refine wpList_store_row rfl 25 _ _ rfl (w.heap.size + 2) R rfl rfl 25 _ Hres9.out Ri.out Rz.out Ro.out ?_)
     refine bodyPost_ret_by (v := .agg R) (results_cell_row rfl _ _ (w.heap.size + 2) 25 _ (0, 0) _ rfl (setRow_heap _ _ _ _ _ _ Hres9.out) Tryz.underlying25 rfl Ri.out) rfl ?_
     exact ⟨rfl, HB9.out.trans (below_setRow _ _ _ (by omega))⟩
end rnback
end Go.Proofs.YtlcafjdehcddcaaGreatDoor
namespace Go.Proofs.YtlcafjdehcddcaaGreatDoor
namespace rkrw
open Go Go.RowKit
open arr mem stil polys polt pols rbitb nttl saml mlkm rkpb
set_option maxRecDepth 100000 in
set_option maxHeartbeats 8000000 in
theorem rows_any (T : Array Value) (Z : Nat → Int) (R nv : Nat) (n : Nat → Nat) (x : Nat → Nat → Nat → Int) (y : Nat → Nat → Int) (v vv : Value) (B : Nat) (w : World) (hTs : T.size = 465) (hT : ∀ k, k < 256 → T[209 + k]? = some (.int .i64 (Z k))) (hR : R ≤ 8) (hn : ∀ r, r < R → n r ≤ 8) (hv : 1 ≤ nv ∧ nv ≤ 8)
 (HM : MX w v R n x) (HV : Holds w B vv nv y) :
 Calls Tryz.prog 13 #[.agg T, v, vv] w fun e w' => (∃ v', e = .returned v' ∧ w'.ownsRow w.heap.size 25 256 v' R (cq (fun r => rowv (fun k => Z k % 8380417) (x r) y (min (n r) nv)) R)) ∧ Below w.heap.size w w' := by
 obtain ⟨ζ, hζ⟩ := ex_eq (fun k => Z k % 8380417)
 have HTh : Away (∀ (f : Nat → Int) (w1 : World), Calls Tryz.prog 51 #[.agg T, .agg (FL .i64 256 f)] w1 fun e w' => e = .returned (.agg (FL .i64 256 (thereR ζ 8 f))) ∧ Below w1.heap.size w1 w') := ⟨fun f w1 => by rw [← hζ.out]; exact rnthere.there_any T Z f w1 hT⟩
 have HBk : Away (∀ (f : Nat → Int) (w1 : World), Calls Tryz.prog 53 #[.agg T, .agg (FL .i64 256 f)] w1 fun e w' => e = .returned (.agg (FL .i64 256 (fun i => (backR ζ 8 f i * 8347681) % 8380417))) ∧ Below w1.heap.size w1 w') := ⟨fun f w1 => by rw [← hζ.out]; exact rnback.back_any T Z f w1 hT⟩
 have HTm := Away.mk rntimes.times_any
 have HAd := Away.mk radd.add_any
 rw [hζ.out]
 have HTz : Away ((Tryz.prog.info? 38).map (·.size) = some T.size) := ⟨by rw [hTs]; kernel_rfl⟩
 obtain ⟨i0, hi, hz0, hz1, hz2⟩ := parts infoPoly
 obtain ⟨hz, hsize⟩ := zero_of_info polt.infoP
 obtain ⟨z, HZ⟩ := ex_eq (FL .i64 256 fun _ => 0)
 rw [HZ.out] at hz hz0
 have HI := Away.mk (And.intro hi (And.intro hz0 (And.intro hz1 hz2)))
 have Hzs : Away (z.size = 256) := ⟨by rw [← HZ.out]; exact fl_size _ _ _⟩
 have Hzc : Away ((Value.agg z).cells.size = 256) := ⟨Hzs.out⟩
 have Hsize := Away.mk hsize
 obtain ⟨G, C, rfl, hG, hrows⟩ := HM
 obtain ⟨gv, cv, rfl, hgv⟩ := hd_any HV
 have HRows := Away.mk hrows
 have HVv := Away.mk HV
 have HGv := Away.mk (And.intro hG hgv)
 have Hn := Away.mk hn
 have Hv := Away.mk hv
 have HR := Away.mk hR
 obtain ⟨th, hth⟩ := ex_eq (fun j => thereR ζ 8 (y j))
 have Hth : Away (∀ j, thereR ζ 8 (y j) = th j) := ⟨fun j => by rw [← hth.out]⟩
 obtain ⟨res, hres⟩ := ex_eq (fun r => rowv ζ (x r) y (min (n r) nv))
 have Hres : Away (∀ r k, (backR ζ 8 (rsum (x r) th (min (n r) nv)) k * 8347681) % 8380417 = res r k) := ⟨fun r k => by rw [← hres.out, ← hth.out]; rfl⟩
 rw [hres.out]
 obtain ⟨W, hW⟩ : ∃ a, w.alloc (.cells T 38) = a := ⟨_, rfl⟩
 obtain ⟨r0, hWs, b0⟩ := one hW
 have T0 : Away (W.heap[w.heap.size]? = some (.cells T 38 (0, 0))) := ⟨r0⟩
 have BW := Away.mk b0
 have HWs := Away.mk hWs
 have HW := Away.mk hW
 clear hW r0 b0 hWs hi hz0 hz1 hz2 hsize hrows HV hn hv hR hth hres hζ hG hgv hT hTs
 go_enter Tryz.func13, Tryz.ntmps13
 go_wp2_with (rw [HW.out])
 go_loopw [18, 7] (fun iv sv wr => ∃ r : Nat, r ≤ nv ∧ iv = .int .i64 (r : Int) ∧ Away (wr.ownsRow W.heap.size 25 256 sv r (cq th r)) ∧ Away (Below W.heap.size W wr)) (fun iv _ _ => nv - (intOf iv).toNat)
 case atStart => exact ⟨0, Nat.zero_le _, rfl, ⟨⟨rfl, Or.inl ⟨rfl, rfl⟩⟩⟩, ⟨Below.refl _ _⟩⟩
 case round =>
  obtain ⟨r, hr, rfl, Oy, Hb⟩ := hrel
  have BE : Away (Below w.heap.size w wr) := ⟨BW.out.trans (Hb.out.mono BW.out.size)⟩
  by_cases hlt : r < nv
  ·have hrz : (r : Int) < (nv : Int) := by omega
   have hr8 : r < 8 := by have := Hv.out; omega
   have hrg := hd_row (HVv.out.later BE.out) r hlt
   obtain ⟨F, HF⟩ := ex_eq (FL .i64 256 (y r))
   obtain ⟨o6, ho6⟩ : ∃ o6, r * 256 = o6 := ⟨_, rfl⟩
   rw [HF.out, ho6] at hrg
   have Hrg := Away.mk hrg
   have Fs : Away (F.size = 256) := ⟨by rw [← HF.out]; exact fl_size _ _ _⟩
   have Fo : Away (F.all (·.oneCell') = true) := ⟨by rw [← HF.out]; exact fl_one _ _ _⟩
   have Fi : Away ((Tryz.prog.info? 25).map (·.size) = some F.size) := ⟨by rw [Fs.out]; exact Hsize.out⟩
   have Fz : Away (z.size = F.size) := ⟨by rw [Hzs.out, Fs.out]⟩
   obtain ⟨W11, hW11⟩ : ∃ a, wr.alloc (.cells F 25) = a := ⟨_, rfl⟩
   obtain ⟨r11, hs11, b11⟩ := one hW11
   have HW11 := Away.mk hW11
   have R11 := Away.mk r11
   have D11 : Away (Below W.heap.size W W11) := ⟨Hb.out.trans (b11.mono Hb.out.size)⟩
   have T11 : Away (W11.heap[w.heap.size]? = some (.cells T 38 (0, 0))) := ⟨(D11.out.block _ (lt_of_row T0.out)).trans T0.out⟩
   have O11 : Away (W11.ownsRow W.heap.size 25 256 u7 r (cq th r)) := ⟨own_later Oy.out b11⟩
   have Hlt := Away.mk hlt
   have HTr : Away (∀ w1 : World, Calls Tryz.prog 51 #[.agg T, .agg F] w1 fun e w' => e = .returned (.agg (FL .i64 256 (th r))) ∧ Below w1.heap.size w1 w') := ⟨fun w1 => by rw [← HF.out, ← Hth.out]; exact HTh.out (y r) w1⟩
   obtain ⟨E, HE⟩ := ex_eq (FL .i64 256 (th r))
   rw [HE.out] at HTr
   have Es : Away (E.size = 256) := ⟨by rw [← HE.out]; exact fl_size _ _ _⟩
   have Eo : Away (E.all (·.oneCell') = true) := ⟨by rw [← HE.out]; exact fl_one _ _ _⟩
   clear hrg hW11 r11 hs11 b11 Oy
   go_wp2_with (first
    | ((with_reducible refine wpList_load_mid rfl 25 _ rfl gv o6 ?hx F.toList _ Hrg.out Tryz.underlying25 rfl ?hi ?_); (case hx => rfl); (case hi => rw [Array.length_toList]; exact Fi.out))
    | (refine wpList_store_new rfl 25 _ _ rfl F rfl rfl Fi.out (by exact Fz.out) Fo.out rfl ?_)
    | (rw [HW11.out])
    | (refine wpList_load_row rfl 38 _ rfl w.heap.size rfl 38 T (0, 0) _ T11.out Tryz.underlying38 rfl HTz.out ?_)
    | (refine wpList_load_row rfl 25 _ rfl wr.heap.size rfl 25 F (0, 0) _ R11.out Tryz.underlying25 rfl Fi.out ?_))
   refine (HTr.out _).mono ?_
   rintro e w5 ⟨rfl, hb5⟩
   have D5 : Away (Below W.heap.size W w5) := ⟨D11.out.trans (hb5.mono D11.out.size)⟩
   have O5 : Away (w5.ownsRow W.heap.size 25 256 u7 r (cq th r)) := ⟨own_later O11.out hb5⟩
   have hws : W.heap.size ≤ w5.heap.size := D5.out.size
   clear hb5
   go_wp2_with fail
   refine wp_buildSlice 45 25 1 _ rfl E i0 (.agg z) Tryz.underlying45 HI.out.1 HI.out.2.1 (by rw [HI.out.2.2.1]; decide) (by rw [HI.out.2.2.1]; decide) ?hf ?_
   case hf =>
    go_simp
    exact ⟨⟨decide_eq_false (fun h => h (Es.out.trans HI.out.2.2.1.symm)), by rw [Es.out, HI.out.2.2.1]; exact Nat.le_refl _⟩, fold_one E _ Es.out (by simp [HI.out.2.2.1])⟩
   go_wp2_with (at_builtin; refine wpList_append_own _ rfl _ _ 45 rfl W.heap.size 25 i0 (.agg z) 256 2048 Tryz.underlying45 HI.out.1 HI.out.2.1 HI.out.2.2.1 HI.out.2.2.2 Hzc.out (by decide) _ _ _ rfl (O5.out.alloc _) ⟨w5.heap.size, 0, none⟩ 1 1 E.toList rfl (by rw [Array.length_toList, Es.out]) (fun j u hu => cell_at_new hu) (fun u hu => all_one Eo.out u hu) (by unfold maxLen; omega) (by omega) (by rw [size_alloc]; omega) ?_)
   intro v' w8 hown' hgrow _
   have hb8 : Below W.heap.size w5 w8 := ((Below.refl W.heap.size w5).alloc hws _).grown hgrow (by rw [size_alloc]; omega) (fun k hk => (O5.out.lt k hk).1)
   have B8 : Away (Below W.heap.size W w8) := ⟨D5.out.trans hb8⟩
   have O8 : Away (w8.ownsRow W.heap.size 25 256 v' (r + 1) (cq th (r + 1))) := ⟨by rw [cq, HE.out]; exact hown'⟩
   clear hown' hgrow hb8
   go_wp2_with fail
   go_roundw
   case rel => exact ⟨r + 1, by have := Hlt.out; omega, by go_num, O8, B8⟩
   case measure => have := Hlt.out; simp [intOf]; omega
  ·obtain rfl : r = nv := by omega
   rename World => w2
   have hH := saml.own_holds Hv.out.1 Oy.out
   obtain ⟨gt, ct, hu7, hgt⟩ := hd_any hH
   subst hu7
   have HTt := Away.mk hH
   have Hgt := Away.mk hgt
   clear hH Oy hgt hlt
   go_wp2_with fail
   go_loopw [31, 10] (fun iv sv wr => ∃ i : Nat, i ≤ R ∧ iv = .int .i64 (i : Int) ∧ Away (wr.ownsRow w2.heap.size 25 256 sv i (cq res i)) ∧ Away (Below w2.heap.size w2 wr)) (fun iv _ _ => R - (intOf iv).toNat)
   case atStart => exact ⟨0, Nat.zero_le _, rfl, ⟨⟨rfl, Or.inl ⟨rfl, rfl⟩⟩⟩, ⟨Below.refl _ _⟩⟩
   case round =>
    obtain ⟨i, hi, rfl, Oy, Hc⟩ := hrel
    rename World => w3
    have B3 : Away (Below w.heap.size w w3) := ⟨BE.out.trans (Hc.out.mono BE.out.size)⟩
    by_cases hlt : i < R
    ·have hiz : (i : Int) < (R : Int) := by omega
     have hi8 : i < 8 := by have := HR.out; omega
     obtain ⟨g, c, hcell, hg, hpol⟩ := HRows.out i hlt
     have hc0 : w3.cell? ⟨G, i, none⟩ = some (.slice (some ⟨g, 0, none⟩) (n i) c) := (B3.out.cell (p := ⟨G, i, none⟩) HGv.out.1).trans hcell
     have Hpol := Away.mk hpol
     have Hg := Away.mk hg
     have Hni := Away.mk (Hn.out i hlt)
     obtain ⟨N, hN⟩ : ∃ N, n i = N := ⟨_, rfl⟩
     rw [hN] at hc0 Hpol Hni
     obtain ⟨W4, hW4⟩ : ∃ a, w3.alloc (.cells z 25) = a := ⟨_, rfl⟩
     obtain ⟨r4, hs4, b4⟩ := one hW4
     have HW4 := Away.mk hW4
     have A4 : Away (At w3.heap.size (FL .i64 256 (rsum (x i) th (min 0 r))) 25 W4 W4) := ⟨by rw [Nat.zero_min, rsum, HZ.out]; exact At.refl r4⟩
     have D4 : Away (Below w3.heap.size w3 W4) := ⟨b4⟩
     have B4 : Away (Below w.heap.size w W4) := ⟨B3.out.trans (b4.mono B3.out.size)⟩
     have Hlt := Away.mk hlt
     have HN := Away.mk hN
     clear hcell hg hpol hW4 r4 hs4 b4 hlt hN
     go_wp2_with (rw [HW4.out])
     clear hc0
     go_loopw [37] (fun jv wr => ∃ j : Nat, j ≤ N ∧ jv = .int .i64 (j : Int) ∧ Away (At w3.heap.size (FL .i64 256 (rsum (x i) th (min j r))) 25 W4 wr)) (fun jv _ => N - (intOf jv).toNat)
     case atStart => exact ⟨0, Nat.zero_le _, rfl, A4⟩
     case round =>
      clear A4
      obtain ⟨j, hj, rfl, A5⟩ := hrel
      have D5 : Away (Below w3.heap.size w3 wr) := ⟨D4.out.trans (A5.out.below D4.out.size (Nat.le_refl _))⟩
      have B5 : Away (Below w.heap.size w wr) := ⟨B3.out.trans (D5.out.mono B3.out.size)⟩
      by_cases hjlt : j < N
      ·have hjz : (j : Int) < (N : Int) := by omega
       have hj8 : j < 8 := by have := Hni.out; omega
       have hrg := range_at (m := j) (fun k hk => (B5.out.cell (p := ⟨g, 256 * j + k, none⟩) Hg.out).trans (Hpol.out j hjlt k hk))
       obtain ⟨F, HF⟩ := ex_eq (FL .i64 256 (x i j))
       obtain ⟨o6, ho6⟩ : ∃ o6, j * 256 = o6 := ⟨_, rfl⟩
       rw [HF.out, ho6] at hrg
       have Hrg := Away.mk hrg
       have Fs : Away (F.size = 256) := ⟨by rw [← HF.out]; exact fl_size _ _ _⟩
       have Fo : Away (F.all (·.oneCell') = true) := ⟨by rw [← HF.out]; exact fl_one _ _ _⟩
       have Fi : Away ((Tryz.prog.info? 25).map (·.size) = some F.size) := ⟨by rw [Fs.out]; exact Hsize.out⟩
       have Fz : Away (z.size = F.size) := ⟨by rw [Hzs.out, Fs.out]⟩
       obtain ⟨W11, hW11⟩ : ∃ a, wr.alloc (.cells F 25) = a := ⟨_, rfl⟩
       obtain ⟨r11, hs11, b11⟩ := one hW11
       have HW11 := Away.mk hW11
       have R11 := Away.mk r11
       have A6 : Away (At w3.heap.size (FL .i64 256 (rsum (x i) th (min j r))) 25 W4 W11) := ⟨A5.out.later b11⟩
       have D6 : Away (Below w3.heap.size w3 W11) := ⟨D5.out.trans (b11.mono D5.out.size)⟩
       have Hjlt := Away.mk hjlt
       clear hrg hW11 r11 hs11 b11 A5 hjlt
       by_cases hjr : j < r
       ·have hjrz : (j : Int) < (r : Int) := by omega
        have hm1 : min j r = j := by omega
        have hm2 : Away (min (j + 1) r = j + 1) := ⟨by omega⟩
        rw [hm1] at A6
        have hrt := range_later (hd_row HTt.out j hjr) Hgt.out (Hc.out.trans (D6.out.mono Hc.out.size))
        rw [ho6] at hrt
        have Hrt := Away.mk hrt
        obtain ⟨E, HE⟩ := ex_eq (FL .i64 256 (th j))
        rw [HE.out] at Hrt
        have Es : Away (E.size = 256) := ⟨by rw [← HE.out]; exact fl_size _ _ _⟩
        have Ei : Away ((Tryz.prog.info? 25).map (·.size) = some E.toList.length) := ⟨by rw [Array.length_toList, Es.out]; exact Hsize.out⟩
        have H1 : Away (∀ w1 : World, Calls Tryz.prog 52 #[.agg F, .agg E] w1 fun e w' => e = .returned (.agg (FL .i64 256 fun k => (x i j k * th j k) % 8380417)) ∧ Below w1.heap.size w1 w') := ⟨fun w1 => by rw [← HF.out, ← HE.out]; exact HTm.out (x i j) (th j) w1⟩
        have H2 : Away (∀ w1 : World, Calls Tryz.prog 46 #[.agg (FL .i64 256 (rsum (x i) th j)), .agg (FL .i64 256 fun k => (x i j k * th j k) % 8380417)] w1 fun e w' => e = .returned (.agg (FL .i64 256 (rsum (x i) th (j + 1)))) ∧ Below w1.heap.size w1 w') := ⟨fun w1 => HAd.out _ _ w1⟩
        obtain ⟨S, HS⟩ := ex_eq (FL .i64 256 (rsum (x i) th j))
        obtain ⟨P, HP⟩ := ex_eq (FL .i64 256 fun k => (x i j k * th j k) % 8380417)
        obtain ⟨S2, HS2⟩ := ex_eq (FL .i64 256 (rsum (x i) th (j + 1)))
        rw [HS.out] at A6 H2
        rw [HP.out] at H1 H2
        rw [HS2.out] at H2
        have Si : Away ((Tryz.prog.info? 25).map (·.size) = some S.size) := ⟨by rw [← HS.out, fl_size]; exact Hsize.out⟩
        have Si2 : Away ((Tryz.prog.info? 25).map (·.size) = some S2.size) := ⟨by rw [← HS2.out, fl_size]; exact Hsize.out⟩
        have So2 : Away (S2.all (·.oneCell') = true) := ⟨by rw [← HS2.out]; exact fl_one _ _ _⟩
        have Sz2 : Away (S.size = S2.size) := ⟨by rw [← HS.out, ← HS2.out, fl_size, fl_size]⟩
        clear hrt hm1 hjr HF HE HS HP
        go_wp2_with (first
         | ((with_reducible refine wpList_load_mid rfl 25 _ rfl g o6 ?hx F.toList _ Hrg.out Tryz.underlying25 rfl ?hi ?_); (case hx => rfl); (case hi => rw [Array.length_toList]; exact Fi.out))
         | (refine wpList_store_new rfl 25 _ _ rfl F rfl rfl Fi.out (by exact Fz.out) Fo.out rfl ?_)
         | (rw [HW11.out]))
        refine qtail.region_below_tail 8 (by kernel_rfl) (by kernel_rfl) ?_
        refine wpQuiet_load rfl 25 _ rfl _ rfl 25 _ _ (fun w' hC => heap_regrown A6.out.row hC) Tryz.underlying25 rfl Si.out ?_
        refine wpQuiet_load rfl 25 _ rfl _ rfl 25 _ _ (fun w' hC => heap_regrown R11.out hC) Tryz.underlying25 rfl Fi.out ?_
        quiet_step (skip)
        quiet_step (skip)
        quiet_step (skip)
        refine wpQuiet_load_mid rfl 25 _ rfl gt o6 rfl E.toList _ (fun w' hC => by
         obtain ⟨pp, rfl⟩ := hC
         exact range_later Hrt.out (Nat.lt_of_lt_of_le Hgt.out (Nat.le_trans Hc.out.size D6.out.size)) (below_regrown _ _ _)) Tryz.underlying25 rfl Ei.out ?_
        quiet_step (exact Calls.regrown_of (H1.out _))
        quiet_step (exact Calls.regrown_of (H2.out _))
        refine wpQuiet_nil ?_
        intro w8 hC
        have hbn : Below W11.heap.size W11 w8 := by
         obtain ⟨pp, rfl⟩ := hC
         exact below_regrown _ _ _
        have A7 : Away (At w3.heap.size S 25 W4 w8) := ⟨A6.out.later hbn⟩
        obtain ⟨w9, hw9⟩ : ∃ a, w8.setRow w3.heap.size S2 = a := ⟨_, rfl⟩
        have A8 : Away (At w3.heap.size (FL .i64 256 (rsum (x i) th (min (j + 1) r))) 25 W4 w9) := ⟨by
         rw [hm2.out, HS2.out, ← hw9]
         exact ⟨A7.out.os, A7.out.tape, A7.out.output, by simpa [World.setRow] using A7.out.size, setRow_heap _ _ _ _ _ _ A7.out.row, fun k hk hkg => (setRow_other _ _ _ _ hkg).trans (A7.out.block k hk hkg)⟩⟩
        have HW9 := Away.mk hw9
        clear hC hbn A6 hw9 hjrz
        simp only [List.drop_succ_cons, List.drop_zero]
        refine wpList_store_row rfl 25 _ _ rfl w3.heap.size S2 rfl rfl 25 _ A7.out.row Si2.out Sz2.out So2.out ?_
        rw [HW9.out]
        go_wp2_with fail
        go_roundw
        case rel => exact ⟨j + 1, by have := Hjlt.out; omega, by go_num, A8⟩
        case measure => have := Hjlt.out; simp [intOf]; omega
       ·have hjrz : ¬ (j : Int) < (r : Int) := by omega
        have A8 : Away (At w3.heap.size (FL .i64 256 (rsum (x i) th (min (j + 1) r))) 25 W4 W11) := ⟨by rw [show min (j + 1) r = min j r by omega]; exact A6.out⟩
        clear A6 hjr
        go_wp2_with (first
         | ((with_reducible refine wpList_load_mid rfl 25 _ rfl g o6 ?hx F.toList _ Hrg.out Tryz.underlying25 rfl ?hi ?_); (case hx => rfl); (case hi => rw [Array.length_toList]; exact Fi.out))
         | (refine wpList_store_new rfl 25 _ _ rfl F rfl rfl Fi.out (by exact Fz.out) Fo.out rfl ?_)
         | (rw [HW11.out]))
        go_roundw
        case rel => exact ⟨j + 1, by have := Hjlt.out; omega, by go_num, A8⟩
        case measure => have := Hjlt.out; simp [intOf]; omega
      ·obtain rfl : j = N := by omega
       have Hb9 : Away (∀ w1 : World, Calls Tryz.prog 53 #[.agg T, .agg (FL .i64 256 (rsum (x i) th (min j r)))] w1 fun e w' => e = .returned (.agg (FL .i64 256 (res i))) ∧ Below w1.heap.size w1 w') := ⟨fun w1 => by
        have h := HBk.out (rsum (x i) th (min j r)) w1
        rw [show (fun k => (backR ζ 8 (rsum (x i) th (min j r)) k * 8347681) % 8380417) = res i from funext fun k => by rw [← HN.out]; exact Hres.out i k] at h
        exact h⟩
       obtain ⟨S, HS⟩ := ex_eq (FL .i64 256 (rsum (x i) th (min j r)))
       rw [HS.out] at A5 Hb9
       have Si : Away ((Tryz.prog.info? 25).map (·.size) = some S.size) := ⟨by rw [← HS.out, fl_size]; exact Hsize.out⟩
       have T5 : Away (wr.heap[w.heap.size]? = some (.cells T 38 (0, 0))) := ⟨by
        have h := Hb.out.trans ((Hc.out.mono Hb.out.size).trans (D5.out.mono (Nat.le_trans Hb.out.size Hc.out.size)))
        exact (h.block _ (lt_of_row T0.out)).trans T0.out⟩
       have R5 := Away.mk A5.out.row
       have O5 : Away (wr.ownsRow w2.heap.size 25 256 u10 i (cq res i)) := ⟨own_later Oy.out D5.out⟩
       obtain ⟨E, HE⟩ := ex_eq (FL .i64 256 (res i))
       rw [HE.out] at Hb9
       have Es : Away (E.size = 256) := ⟨by rw [← HE.out]; exact fl_size _ _ _⟩
       have Eo : Away (E.all (·.oneCell') = true) := ⟨by rw [← HE.out]; exact fl_one _ _ _⟩
       have BX : Away (Below w2.heap.size w2 wr) := ⟨Hc.out.trans (D5.out.mono Hc.out.size)⟩
       clear A5 hjlt
       go_wp2_with (first
        | (refine wpList_load_row rfl 38 _ rfl w.heap.size rfl 38 T (0, 0) _ T5.out Tryz.underlying38 rfl HTz.out ?_)
        | (refine wpList_load_row rfl 25 _ rfl w3.heap.size rfl 25 S (0, 0) _ R5.out Tryz.underlying25 rfl Si.out ?_))
       refine (Hb9.out _).mono ?_
       rintro e w6 ⟨rfl, hb6⟩
       have BY : Away (Below w2.heap.size w2 w6) := ⟨BX.out.trans (hb6.mono BX.out.size)⟩
       have O6 : Away (w6.ownsRow w2.heap.size 25 256 u10 i (cq res i)) := ⟨own_later O5.out hb6⟩
       have hws : w2.heap.size ≤ w6.heap.size := BY.out.size
       clear hb6
       go_wp2_with fail
       refine wp_buildSlice 45 25 1 _ rfl E i0 (.agg z) Tryz.underlying45 HI.out.1 HI.out.2.1 (by rw [HI.out.2.2.1]; decide) (by rw [HI.out.2.2.1]; decide) ?hf ?_
       case hf =>
        go_simp
        exact ⟨⟨decide_eq_false (fun h => h (Es.out.trans HI.out.2.2.1.symm)), by rw [Es.out, HI.out.2.2.1]; exact Nat.le_refl _⟩, fold_one E _ Es.out (by simp [HI.out.2.2.1])⟩
       go_wp2_with (at_builtin; refine wpList_append_own _ rfl _ _ 45 rfl w2.heap.size 25 i0 (.agg z) 256 2048 Tryz.underlying45 HI.out.1 HI.out.2.1 HI.out.2.2.1 HI.out.2.2.2 Hzc.out (by decide) _ _ _ rfl (O6.out.alloc _) ⟨w6.heap.size, 0, none⟩ 1 1 E.toList rfl (by rw [Array.length_toList, Es.out]) (fun j u hu => cell_at_new hu) (fun u hu => all_one Eo.out u hu) (by unfold maxLen; omega) (by omega) (by rw [size_alloc]; omega) ?_)
       intro v' w8 hown' hgrow _
       have hb8 : Below w2.heap.size w6 w8 := ((Below.refl w2.heap.size w6).alloc hws _).grown hgrow (by rw [size_alloc]; omega) (fun k hk => (O6.out.lt k hk).1)
       have B8 : Away (Below w2.heap.size w2 w8) := ⟨BY.out.trans hb8⟩
       have O8 : Away (w8.ownsRow w2.heap.size 25 256 v' (i + 1) (cq res (i + 1))) := ⟨by rw [cq, HE.out]; exact hown'⟩
       clear hown' hgrow hb8
       go_wp2_with fail
       go_roundw
       case rel => exact ⟨i + 1, by have := Hlt.out; omega, by go_num, O8, B8⟩
       case measure => have := Hlt.out; simp [intOf]; omega
    ·obtain rfl : i = R := by omega
     have Fx : Away (w3.ownsRow w.heap.size 25 256 u10 i (cq res i)) := ⟨own_base Oy.out BE.out.size⟩
     clear Oy
     go_wp2_with fail
     go_ret
     exact ⟨⟨_, rfl, Fx.out⟩, B3.out⟩
end rkrw
end Go.Proofs.YtlcafjdehcddcaaGreatDoor
