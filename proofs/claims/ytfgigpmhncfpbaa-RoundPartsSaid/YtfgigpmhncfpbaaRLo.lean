/-
  What round.Low returns. Conditions: none.
-/
import Derived.Test.YtfgigpmhncfpbaaRPt
import Derived.Test.YtfgigpmhncfpbaaPot
namespace Go.Proofs.Ytfgigpmhncfpbaa.rlow
open Go Go.RowKit
open Go.Proofs.Ytfgigpmhncfpbaa.arr Go.Proofs.Ytfgigpmhncfpbaa.mem Go.Proofs.Ytfgigpmhncfpbaa.stil Go.Proofs.Ytfgigpmhncfpbaa.polys Go.Proofs.Ytfgigpmhncfpbaa.polt Go.Proofs.Ytfgigpmhncfpbaa.fldm Go.Proofs.Ytfgigpmhncfpbaa.fld1 Go.Proofs.Ytfgigpmhncfpbaa.rndm Go.Proofs.Ytfgigpmhncfpbaa.rpart

set_option maxRecDepth 100000 in
set_option maxHeartbeats 4000000 in
theorem low_any (f : Nat → Int) (g : Int) (w : World) :
    Calls Try.prog 11 #[.agg (FL .i64 256 f), .int .i64 g] w fun e w' => e = .returned (.agg (FL .i64 256 fun i => lw g (f i) % 8380417)) ∧ Below w.heap.size w w' := by
  obtain ⟨hz, hsize⟩ := zero_of_info infoP
  obtain ⟨z, HZ⟩ := ex_eq (FL .i64 256 fun _ => 0)
  rw [HZ.out] at hz
  have Hzs : Away (z.size = 256) := ⟨by rw [← HZ.out]; exact fl_size _ _ _⟩
  obtain ⟨F, HF⟩ : ∃ F : Nat → Int, Away (F = fun i => lw g (f i) % 8380417) := ⟨_, ⟨rfl⟩⟩
  have hFi : ∀ i, F i = (fun i => lw g (f i) % 8380417) i := fun i => by rw [HF.out]
  have HFi := Away.mk hFi
  rw [← HF.out]
  clear HF hFi
  obtain ⟨R, HR⟩ := ex_eq (FL .i64 256 F)
  have Ri : Away ((Try.prog.info? 30).map (·.size) = some R.size) := ⟨by rw [← HR.out, fl_size]; exact hsize⟩
  have Ro : Away (R.all (·.oneCell') = true) := ⟨by rw [← HR.out]; exact fl_one _ _ _⟩
  have Rz : Away (z.size = R.size) := ⟨by rw [Hzs.out, ← HR.out, fl_size]⟩
  obtain ⟨I, HI⟩ := ex_eq (FL .i64 256 f)
  have Ii : Away ((Try.prog.info? 30).map (·.size) = some I.size) := ⟨by rw [← HI.out, fl_size]; exact hsize⟩
  rw [HR.out, HI.out]
  clear hsize
  have Hix : Away (∀ (i : Nat), i < 256 → ∀ w1 : World, (Instr.index 30 (.agg I) (.int .i64 (i : Int))).run Try.prog w1 = .ok (.int .i64 (f i)) w1) := ⟨fun i hi w1 => by rw [← HI.out]; exact index_poly f i hi w1⟩
  go_enter Try.func11, Try.ntmps11
  go_wp2_with fail
  clear hz
  obtain ⟨W, hW⟩ : ∃ x, (w.alloc (.cells I 30)).alloc (.cells z 30) = x := ⟨_, rfl⟩
  obtain ⟨b0, b1, hWs, hWb⟩ := two hW
  rw [hW]
  clear hW
  have B0 := Away.mk b0
  have B1 := Away.mk b1
  have HWs : Away (w.heap.size + 2 ≤ W.heap.size) := ⟨by omega⟩
  have HWb := Away.mk hWb
  clear hWs hWb b0 b1
  refine wp_load_row 30 _ rfl w.heap.size rfl 30 I (0, 0) _ B0.out Try.underlying30 rfl Ii.out ?_
  go_wp2_with fail
  go_loopw [10] (fun v wr => ∃ i : Nat, i ≤ 256 ∧ v = .int .i64 (i : Int) ∧ Away (At w.heap.size (FL .i64 256 (pt F f i)) 30 W wr)) (fun v _ => 256 - (intOf v).toNat)
  case atStart => exact ⟨0, Nat.zero_le _, rfl, ⟨by rw [pt_zero, HI.out]; exact At.refl B0.out⟩⟩
  case round =>
    obtain ⟨i, hi, rfl, A0⟩ := hrel
    by_cases hlt : i < 256
    · have hiz : (i : Int) < 256 := by omega
      have hx0 := Hix.out i hlt wr
      obtain ⟨x, hx⟩ : ∃ x, f i = x := ⟨_, rfl⟩
      rw [hx] at hx0
      have HV : Away (F i = lw g x % 8380417) := ⟨by rw [HFi.out, hx]⟩
      have Hp := parts_any x g
      obtain ⟨h0, hh0⟩ := ex_eq (hgh g x)
      obtain ⟨l0, hl0⟩ := ex_eq (lw g x)
      rw [hh0.out, hl0.out] at Hp
      rw [hl0.out] at HV
      have Hr := reduce_any l0
      obtain ⟨v, hv⟩ := ex_eq (l0 % 8380417)
      rw [hv.out] at Hr
      have HU : Away (upd (pt F f i) i v = pt F f (i + 1)) := ⟨pt_upd F f i v (by rw [HV.out, hv.out])⟩
      clear hx
      go_wp2_with fail
      refine (Hp _).mono ?_
      rintro e w1 ⟨rfl, rfl⟩
      go_wp2_with fail
      refine (Hr _).mono ?_
      rintro e w1 ⟨rfl, rfl⟩
      go_wp2_with ((with_reducible refine wpList_put2 A0 rfl _ _ _ rfl rfl ?_); refine ⟨_, _, _, rfl, rfl, rfl, by rw [fl_size]; exact hlt, ?_⟩; intro wn HR2; rw [fl_set, HU.out] at HR2)
      go_roundw
      case rel => exact ⟨i + 1, by omega, by go_num, HR2⟩
      case measure => simp [intOf]; omega
    · obtain rfl : i = 256 := by omega
      simp only [Int.cast_ofNat_Int]
      rw [fl_all, HR.out] at A0
      have Hrow := Away.mk A0.out.row
      have Hres : Away (wr.heap[w.heap.size + 1]? = some (.cells z 30 (0, 0))) := ⟨A0.out.other (by have := HWs.out; omega) (by omega) B1.out⟩
      have HB : Away (Below w.heap.size w wr) := ⟨HWb.out.trans (A0.out.below (by have := HWs.out; omega) (Nat.le_refl _))⟩
      clear A0
      go_wp2_with (first
        | (refine wpList_load_row rfl 30 _ rfl w.heap.size rfl 30 R (0, 0) _ Hrow.out Try.underlying30 rfl Ri.out ?_)
        | (refine wpList_store_row rfl 30 _ _ rfl (w.heap.size + 1) R rfl rfl 30 _ Hres.out Ri.out Rz.out Ro.out ?_))
      refine bodyPost_ret_by (v := .agg R) (results_cell_row rfl _ _ (w.heap.size + 1) 30 _ (0, 0) _ rfl (setRow_heap _ _ _ _ _ _ Hres.out) Try.underlying30 rfl Ri.out) rfl ?_
      exact ⟨rfl, HB.out.trans (below_setRow _ _ _ (by omega))⟩
end Go.Proofs.Ytfgigpmhncfpbaa.rlow
