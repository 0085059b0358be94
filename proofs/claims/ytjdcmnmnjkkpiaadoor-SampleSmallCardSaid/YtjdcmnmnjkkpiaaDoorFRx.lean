/-
  What field.reduced returns. Conditions: none.
  What field.Right returns. Conditions: none.
-/
import Derived.Test.YtjdcmnmnjkkpiaaDoorFlA
import Derived.Test.YtjdcmnmnjkkpiaaDoorPuA
namespace Go.Proofs.YtjdcmnmnjkkpiaaDoor.freduced
open Go Go.RowKit
open Go.Proofs.YtjdcmnmnjkkpiaaDoor.arr Go.Proofs.YtjdcmnmnjkkpiaaDoor.mem Go.Proofs.YtjdcmnmnjkkpiaaDoor.stil Go.Proofs.YtjdcmnmnjkkpiaaDoor.polys Go.Proofs.YtjdcmnmnjkkpiaaDoor.polt Go.Proofs.YtjdcmnmnjkkpiaaDoor.fldm Go.Proofs.YtjdcmnmnjkkpiaaDoor.fld1

set_option maxRecDepth 100000 in
set_option maxHeartbeats 4000000 in
theorem reduced_any (f : Nat → Int) (w : World) :
    Calls Tryd.prog 50 #[.agg (FL .i64 256 f)] w fun e w' => e = .returned (.agg (FL .i64 256 fun i => f i % 8380417)) ∧ Below w.heap.size w w' := by
  obtain ⟨hz, hsize⟩ := zero_of_info infoP
  obtain ⟨z, HZ⟩ := ex_eq (FL .i64 256 fun _ => 0)
  rw [HZ.out] at hz
  have Hzs : Away (z.size = 256) := ⟨by rw [← HZ.out]; exact fl_size _ _ _⟩
  obtain ⟨F, HF⟩ : ∃ F : Nat → Int, Away (F = fun i => f i % 8380417) := ⟨_, ⟨rfl⟩⟩
  have hFi : ∀ i, F i = (fun i => f i % 8380417) i := fun i => by rw [HF.out]
  have HFi := Away.mk hFi
  rw [← HF.out]
  clear HF hFi
  obtain ⟨R, HR⟩ := ex_eq (FL .i64 256 F)
  have Ri : Away ((Tryd.prog.info? 36).map (·.size) = some R.size) := ⟨by rw [← HR.out, fl_size]; exact hsize⟩
  have Ro : Away (R.all (·.oneCell') = true) := ⟨by rw [← HR.out]; exact fl_one _ _ _⟩
  have Rz : Away (z.size = R.size) := ⟨by rw [Hzs.out, ← HR.out, fl_size]⟩
  rw [HR.out]
  have Hred := Away.mk reduce_any
  clear hsize
  go_enter Tryd.func50, Tryd.ntmps50
  go_wp2_with fail
  clear hz
  obtain ⟨W, hW⟩ : ∃ x, (w.alloc (.cells (FL .i64 256 f) 36)).alloc (.cells z 36) = x := ⟨_, rfl⟩
  obtain ⟨b0, b1, hWs, hWb⟩ := two hW
  rw [hW]
  clear hW
  have B0 := Away.mk b0
  have BR := Away.mk b1
  have HWs : Away (w.heap.size + 2 ≤ W.heap.size) := ⟨by omega⟩
  have HWb := Away.mk hWb
  clear hWs hWb b0 b1
  go_loopw [4] (fun v wr => ∃ i : Nat, i ≤ 256 ∧ v = .int .i64 (i : Int) ∧ Away (At w.heap.size (FL .i64 256 (pt F f i)) 36 W wr)) (fun v _ => 256 - (intOf v).toNat)
  case atStart => exact ⟨0, Nat.zero_le _, rfl, ⟨by rw [pt_zero]; exact At.refl B0.out⟩⟩
  case round =>
    obtain ⟨i, hi, rfl, A0⟩ := hrel
    by_cases hlt : i < 256
    · have hiz : (i : Int) < 256 := by omega
      obtain ⟨x, hx⟩ : ∃ x, f i = x := ⟨_, rfl⟩
      have ca : wr.cell? ⟨w.heap.size, i, none⟩ = some (.int .i64 x) := by
        have h9 := fl_at A0.out.row i hlt
        rw [pt_at, hx] at h9
        exact h9
      obtain ⟨v, hv⟩ := ex_eq (x % 8380417)
      have Hx : ∀ w1 : World, Calls Tryd.prog 59 #[.int .i64 x] w1 fun e w' => e = .returned (.int .i64 v) ∧ w1 = w' := fun w1 => by rw [← hv.out]; exact (reduce_any x w1).mono fun _ _ h => ⟨h.1, h.2.symm⟩
      have HU : Away (upd (pt F f i) i v = pt F f (i + 1)) := ⟨pt_upd F f i v (by rw [HFi.out, hx, ← hv.out])⟩
      clear hx
      go_wp2_with fail
      refine (Hx _).mono ?_
      rintro e w3 ⟨rfl, hw3⟩
      subst hw3
      clear ca
      have A1 : Away (At w.heap.size (FL .i64 256 (pt F f i)) 36 W wr) := A0
      clear A0
      go_wp2_with ((with_reducible refine wpList_put2 A1 rfl _ _ _ rfl rfl ?_); refine ⟨_, _, _, rfl, rfl, rfl, (by rw [fl_size]; exact hlt), ?_⟩; intro wn HR; rw [fl_set, HU.out] at HR)
      go_roundw
      case rel => exact ⟨i + 1, by omega, by go_num, HR⟩
      case measure => simp [intOf]; omega
    · obtain rfl : i = 256 := by omega
      simp only [Int.cast_ofNat_Int]
      rw [fl_all, HR.out] at A0
      have Hrow := Away.mk A0.out.row
      have Hres : Away (wr.heap[w.heap.size + 1]? = some (.cells z 36 (0, 0))) := ⟨A0.out.other (by have := HWs.out; omega) (by omega) BR.out⟩
      have HB : Away (Below w.heap.size w wr) := ⟨HWb.out.trans (A0.out.below (by have := HWs.out; omega) (Nat.le_refl _))⟩
      clear A0
      go_wp2_with (first
        | (refine wpList_load_row rfl 36 _ rfl w.heap.size rfl 36 R (0, 0) _ Hrow.out Tryd.underlying36 rfl Ri.out ?_)
        | (refine wpList_store_row rfl 36 _ _ rfl (w.heap.size + 1) R rfl rfl 36 _ Hres.out Ri.out Rz.out Ro.out ?_))
      refine bodyPost_ret_by (v := .agg R) (results_cell_row rfl _ _ (w.heap.size + 1) 36 _ (0, 0) _ rfl (setRow_heap _ _ _ _ _ _ Hres.out) Tryd.underlying36 rfl Ri.out) rfl ?_
      exact ⟨rfl, HB.out.trans (below_setRow _ _ _ (by omega))⟩
end Go.Proofs.YtjdcmnmnjkkpiaaDoor.freduced

namespace Go.Proofs.YtjdcmnmnjkkpiaaDoor.fright
open Go Go.RowKit
open Go.Proofs.YtjdcmnmnjkkpiaaDoor.arr Go.Proofs.YtjdcmnmnjkkpiaaDoor.mem Go.Proofs.YtjdcmnmnjkkpiaaDoor.stil Go.Proofs.YtjdcmnmnjkkpiaaDoor.polys Go.Proofs.YtjdcmnmnjkkpiaaDoor.polt Go.Proofs.YtjdcmnmnjkkpiaaDoor.fldm Go.Proofs.YtjdcmnmnjkkpiaaDoor.fld1 Go.Proofs.YtjdcmnmnjkkpiaaDoor.freduced

set_option maxRecDepth 100000 in
set_option maxHeartbeats 1000000 in
theorem right_any (f : Nat → Int) (w : World) :
    Calls Tryd.prog 24 #[.agg (FL .i64 256 f)] w fun e w' => e = .returned (.bool (same 256 (fun i => f i % 8380417) f)) ∧ Below w.heap.size w w' := by
  obtain ⟨-, hsize⟩ := zero_of_info infoP
  have heq := fun w => eq_poly (fun i => f i % 8380417) f w
  have H := fun w => reduced_any f w
  obtain ⟨b, Hb⟩ := ex_eq (same 256 (fun i => f i % 8380417) f)
  rw [Hb.out] at heq ⊢
  obtain ⟨F, HF⟩ := ex_eq (FL .i64 256 f)
  obtain ⟨G, HG⟩ := ex_eq (FL .i64 256 fun i => f i % 8380417)
  rw [HF.out, HG.out] at heq
  rw [HF.out] at H ⊢
  simp only [HG.out] at H
  have Hz : Away ((Tryd.prog.info? 36).map (·.size) = some F.size) := ⟨by rw [← HF.out, fl_size]; exact hsize⟩
  clear hsize
  go_enter Tryd.func24, Tryd.ntmps24
  go_wp2_with fail
  obtain ⟨W, hW⟩ : ∃ W, w.alloc (.cells F 36) = W := ⟨_, rfl⟩
  have hg : W.heap[w.heap.size]? = some (.cells F 36 (0, 0)) := by rw [← hW, heap_at _ _ _ rfl]
  have HB : Away (Below w.heap.size w W) := ⟨by rw [← hW]; exact (Below.refl _ _).alloc (Nat.le_refl _) _⟩
  rw [hW]
  clear hW
  refine wp_region_quiet_below (by kernel_rfl) (by kernel_rfl) ?_
  refine wpQuiet_load rfl 36 _ rfl _ rfl 36 _ _ (fun w' hC => heap_regrown hg hC) Tryd.underlying36 rfl Hz.out ?_
  quiet_step (exact Calls.regrown_of (H _))
  refine wpQuiet_load rfl 36 _ rfl _ rfl 36 _ _ (fun w' hC => heap_regrown hg hC) Tryd.underlying36 rfl Hz.out ?_
  quiet_step (skip)
  quiet_step (skip)
  refine wpQuiet_nil ?_
  intro w3 hC
  have hb3 : Away (Below W.heap.size W w3) := ⟨by
    obtain ⟨pp, rfl⟩ := hC
    exact below_regrown _ _ _⟩
  clear hC heq hg
  go_wp2_with fail
  go_ret
  exact ⟨rfl, HB.out.trans (hb3.out.mono HB.out.size)⟩
end Go.Proofs.YtjdcmnmnjkkpiaaDoor.fright
