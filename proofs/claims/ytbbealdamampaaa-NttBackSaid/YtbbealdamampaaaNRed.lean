/-
  What ntt's reduced returns: each coefficient reduced. Conditions: none.
-/
import Derived.Test.YtbbealdamampaaaFSc
import Derived.Test.YtbbealdamampaaaNtm
namespace Go.Proofs.Ytbbealdamampaaa.nred
open Go Go.RowKit
open Go.Proofs.Ytbbealdamampaaa.arr Go.Proofs.Ytbbealdamampaaa.mem Go.Proofs.Ytbbealdamampaaa.stil Go.Proofs.Ytbbealdamampaaa.polys Go.Proofs.Ytbbealdamampaaa.polt Go.Proofs.Ytbbealdamampaaa.nttl

set_option maxRecDepth 100000 in
set_option maxHeartbeats 2000000 in
theorem reduced_any (f : Nat → Int) (w : World) :
    Calls Try.prog 18 #[.agg (FL .i64 256 f)] w fun e w' => e = .returned (.agg (FL .i64 256 (red f))) ∧ Below w.heap.size w w' := by
  obtain ⟨hz, hsize⟩ := zero_of_info infoP
  obtain ⟨z, HZ⟩ := ex_eq (FL .i64 256 fun _ => 0)
  rw [HZ.out] at hz
  have Hzs : Away (z.size = 256) := ⟨by rw [← HZ.out]; exact fl_size _ _ _⟩
  have hr : (fun i => (f i * 1) % 8380417) = red f := by funext i; unfold red; rw [Int.mul_one]
  obtain ⟨F, HF⟩ := ex_eq (FL .i64 256 f)
  obtain ⟨R, HR⟩ := ex_eq (FL .i64 256 (red f))
  have Fi : Away ((Try.prog.info? 23).map (·.size) = some F.size) := ⟨by rw [← HF.out, fl_size]; exact hsize⟩
  have Ri : Away ((Try.prog.info? 23).map (·.size) = some R.size) := ⟨by rw [← HR.out, fl_size]; exact hsize⟩
  have Ro : Away (R.all (·.oneCell') = true) := ⟨by rw [← HR.out]; exact fl_one _ _ _⟩
  have Rz : Away (z.size = R.size) := ⟨by rw [Hzs.out, ← HR.out, fl_size]⟩
  have H : Away (∀ w1 : World, Calls Try.prog 20 #[.agg F, .int .i64 1] w1 fun e w' => e = .returned (.agg R) ∧ Below w1.heap.size w1 w') := ⟨fun w1 => by
    have h := fscale.scale_any f 1 w1
    rw [hr, HF.out, HR.out] at h
    exact h⟩
  rw [HF.out, HR.out]
  clear hr HF HR HZ hsize
  go_enter Try.func18, Try.ntmps18
  go_wp2_with fail
  obtain ⟨W, hW⟩ : ∃ x, (w.alloc (.cells F 23)).alloc (.cells z 23) = x := ⟨_, rfl⟩
  obtain ⟨b0, b1, hWs, hWb⟩ := two hW
  rw [hW]
  clear hW
  have B0 := Away.mk b0
  have B1 := Away.mk b1
  have HWb := Away.mk hWb
  clear hz hWs hWb b0 b1
  go_wp2_with fail
  refine wp_load_row 23 _ rfl w.heap.size rfl 23 F (0, 0) _ B0.out Try.underlying23 rfl Fi.out ?_
  go_wp2_with fail
  refine (H.out _).mono ?_
  rintro e w1 ⟨rfl, hb⟩
  have B2 : Away (w1.heap[w.heap.size + 1]? = some (.cells z 23 (0, 0))) := ⟨(hb.block _ (lt_of_row B1.out)).trans B1.out⟩
  have HB : Away (Below w.heap.size w w1) := ⟨HWb.out.trans (hb.mono HWb.out.size)⟩
  clear hb B0 B1 HWb
  go_wp2_with (refine wpList_store_row rfl 23 _ _ rfl (w.heap.size + 1) R rfl rfl 23 _ B2.out Ri.out Rz.out Ro.out ?_)
  refine bodyPost_ret_by (v := .agg R) (results_cell_row rfl _ _ (w.heap.size + 1) 23 _ (0, 0) _ rfl (setRow_heap _ _ _ _ _ _ B2.out) Try.underlying23 rfl Ri.out) rfl ?_
  exact ⟨rfl, HB.out.trans (below_setRow _ _ _ (by omega))⟩
end Go.Proofs.Ytbbealdamampaaa.nred
