/-
  What ntt.Product returns: the transform back of the products of both transforms there. Conditions: the tables are of their type.
-/
import Derived.Test.YtbbealdamampaaaNThere
import Derived.Test.YtbbealdamampaaaNBack
import Derived.Test.YtbbealdamampaaaNTimes
import Derived.Test.YtbbealdamampaaaBase
namespace Go.Proofs.Ytbbealdamampaaa.nprod
open Go Go.RowKit
open Go.Proofs.Ytbbealdamampaaa.arr Go.Proofs.Ytbbealdamampaaa.mem Go.Proofs.Ytbbealdamampaaa.stil Go.Proofs.Ytbbealdamampaaa.polys Go.Proofs.Ytbbealdamampaaa.polt Go.Proofs.Ytbbealdamampaaa.nttm Go.Proofs.Ytbbealdamampaaa.nttl Go.Proofs.Ytbbealdamampaaa.nthere Go.Proofs.Ytbbealdamampaaa.qtail

/-- the product by the transforms -/
def pr (ζ : Nat → Int) (f g : Nat → Int) : Nat → Int := fun i => (backR ζ 8 (fun i => (thereR ζ 8 f i * thereR ζ 8 g i) % 8380417) i * 8347681) % 8380417
set_option maxRecDepth 100000 in
set_option maxHeartbeats 4000000 in
theorem product_any (T : Array Value) (Z : Nat → Int) (f g : Nat → Int) (w : World) (hT : ZT T Z) :
    Calls Try.prog 10 #[.agg T, .agg (FL .i64 256 f), .agg (FL .i64 256 g)] w fun e w' => e = .returned (.agg (FL .i64 256 (pr (fun k => Z k % 8380417) f g))) ∧ Below w.heap.size w w' := by
  obtain ⟨ζ, hζ⟩ := ex_eq (fun k => Z k % 8380417)
  have h1 := fun w1 : World => there_any T Z f w1 hT
  have h2 := fun w1 : World => there_any T Z g w1 hT
  have h3 := fun w1 : World => nback.back_any T Z (fun i => (thereR ζ 8 f i * thereR ζ 8 g i) % 8380417) w1 hT
  rw [hζ.out] at h1 h2 h3
  rw [hζ.out]
  have h4 := fun w1 : World => ntimes.times_any (thereR ζ 8 f) (thereR ζ 8 g) w1
  obtain ⟨hz, hsize⟩ := zero_of_info infoP
  obtain ⟨z, HZ⟩ := ex_eq (FL .i64 256 fun _ => 0)
  rw [HZ.out] at hz
  have Hzs : Away (z.size = 256) := ⟨by rw [← HZ.out]; exact fl_size _ _ _⟩
  obtain ⟨F, HF⟩ := ex_eq (FL .i64 256 f)
  obtain ⟨G, HG⟩ := ex_eq (FL .i64 256 g)
  obtain ⟨X, HX⟩ := ex_eq (FL .i64 256 (thereR ζ 8 f))
  obtain ⟨Y, HY⟩ := ex_eq (FL .i64 256 (thereR ζ 8 g))
  obtain ⟨M, HM⟩ := ex_eq (FL .i64 256 (fun i => (thereR ζ 8 f i * thereR ζ 8 g i) % 8380417))
  obtain ⟨R, HR⟩ := ex_eq (FL .i64 256 (pr ζ f g))
  have h5 : ∀ w1 : World, Calls Try.prog 7 #[.agg T, .agg (FL .i64 256 (fun i => (thereR ζ 8 f i * thereR ζ 8 g i) % 8380417))] w1 fun e w' => e = .returned (.agg (FL .i64 256 (pr ζ f g))) ∧ Below w1.heap.size w1 w' := h3
  rw [HF.out, HX.out] at h1
  rw [HG.out, HY.out] at h2
  rw [HX.out, HY.out, HM.out] at h4
  rw [HM.out, HR.out] at h5
  have H1 := Away.mk h1
  have H2 := Away.mk h2
  have H4 := Away.mk h4
  have H5 := Away.mk h5
  have sz : ∀ h : Nat → Int, (Try.prog.info? 23).map (·.size) = some (FL .i64 256 h).size := fun h => by rw [fl_size]; exact hsize
  have Fi : Away ((Try.prog.info? 23).map (·.size) = some F.size) := ⟨by rw [← HF.out]; exact sz _⟩
  have Gi : Away ((Try.prog.info? 23).map (·.size) = some G.size) := ⟨by rw [← HG.out]; exact sz _⟩
  have Ri : Away ((Try.prog.info? 23).map (·.size) = some R.size) := ⟨by rw [← HR.out]; exact sz _⟩
  have Ti : Away ((Try.prog.info? 33).map (·.size) = some T.size) := ⟨by rw [hT.size]; exact infoT⟩
  have Ro : Away (R.all (·.oneCell') = true) := ⟨by rw [← HR.out]; exact fl_one _ _ _⟩
  have Rz : Away (z.size = R.size) := ⟨by rw [Hzs.out, ← HR.out, fl_size]⟩
  rw [HF.out, HG.out, HR.out]
  clear HF HG HX HY HM HR HZ hsize sz h1 h2 h3 h4 h5 hζ hT
  go_enter Try.func10, Try.ntmps10
  go_wp2_with fail
  obtain ⟨W, hW⟩ : ∃ x, (((w.alloc (.cells T 33)).alloc (.cells F 23)).alloc (.cells G 23)).alloc (.cells z 23) = x := ⟨_, rfl⟩
  obtain ⟨b0, b1, b2, b3, hWs, hWb⟩ := four hW
  rw [hW]
  clear hW hz
  have B0 := Away.mk b0
  have B1 := Away.mk b1
  have B2 := Away.mk b2
  have B3 := Away.mk b3
  have HWb := Away.mk hWb
  clear hWs hWb b0 b1 b2 b3
  refine region_below_tail 9 (by kernel_rfl) (by kernel_rfl) ?_
  refine wpQuiet_load rfl 33 _ rfl _ rfl 33 _ _ (fun w' hC => heap_regrown B0.out hC) Try.underlying33 rfl Ti.out ?_
  refine wpQuiet_load rfl 33 _ rfl _ rfl 33 _ _ (fun w' hC => heap_regrown B0.out hC) Try.underlying33 rfl Ti.out ?_
  refine wpQuiet_load rfl 23 _ rfl _ rfl 23 _ _ (fun w' hC => heap_regrown B1.out hC) Try.underlying23 rfl Fi.out ?_
  quiet_step (exact Calls.regrown_of (H1.out _))
  refine wpQuiet_load rfl 33 _ rfl _ rfl 33 _ _ (fun w' hC => heap_regrown B0.out hC) Try.underlying33 rfl Ti.out ?_
  refine wpQuiet_load rfl 23 _ rfl _ rfl 23 _ _ (fun w' hC => heap_regrown B2.out hC) Try.underlying23 rfl Gi.out ?_
  quiet_step (exact Calls.regrown_of (H2.out _))
  quiet_step (exact Calls.regrown_of (H4.out _))
  quiet_step (exact Calls.regrown_of (H5.out _))
  refine wpQuiet_nil ?_
  intro w3 hC
  have hb3 : Below W.heap.size W w3 := by
    obtain ⟨pp, rfl⟩ := hC
    exact below_regrown _ _ _
  have C3 : Away (w3.heap[w.heap.size + 3]? = some (.cells z 23 (0, 0))) := ⟨(hb3.block _ (lt_of_row B3.out)).trans B3.out⟩
  have HB3 : Away (Below w.heap.size w w3) := ⟨HWb.out.trans (hb3.mono HWb.out.size)⟩
  clear hC hb3 B0 B1 B2 B3 HWb
  simp only [List.drop_succ_cons, List.drop_zero]
  refine wpList_store_row rfl 23 _ _ rfl (w.heap.size + 3) R rfl rfl 23 _ C3.out Ri.out Rz.out Ro.out ?_
  go_wp2_with fail
  refine bodyPost_ret_by (v := .agg R) (results_cell_row rfl _ _ (w.heap.size + 3) 23 _ (0, 0) _ rfl (setRow_heap _ _ _ _ _ _ C3.out) Try.underlying23 rfl Ri.out) rfl ?_
  exact ⟨rfl, HB3.out.trans (below_setRow _ _ _ (by omega))⟩
end Go.Proofs.Ytbbealdamampaaa.nprod
