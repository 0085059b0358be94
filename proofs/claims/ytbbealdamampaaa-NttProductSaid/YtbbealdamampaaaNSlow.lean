/-
  What ntt.Slow returns: the product of both reduced polynomials, in which X^256 is -1, reduced. Conditions: none.
-/
import Derived.Test.YtbbealdamampaaaNRed
import Derived.Test.YtbbealdamampaaaNttS
import Derived.Test.YtbbealdamampaaaBase
namespace Go.Proofs.Ytbbealdamampaaa.nslow
open Go Go.RowKit
open Go.Proofs.Ytbbealdamampaaa.arr Go.Proofs.Ytbbealdamampaaa.mem Go.Proofs.Ytbbealdamampaaa.stil Go.Proofs.Ytbbealdamampaaa.polys Go.Proofs.Ytbbealdamampaaa.polt Go.Proofs.Ytbbealdamampaaa.nttm Go.Proofs.Ytbbealdamampaaa.nttl Go.Proofs.Ytbbealdamampaaa.ntts Go.Proofs.Ytbbealdamampaaa.qtail

set_option maxRecDepth 100000 in
set_option maxHeartbeats 4000000 in
theorem slow_any (f g : Nat → Int) (w : World) :
    Calls Try.prog 11 #[.agg (FL .i64 256 f), .agg (FL .i64 256 g)] w fun e w' => e = .returned (.agg (FL .i64 256 (red (mul 256 (-1) (red f) (red g))))) ∧ Below w.heap.size w w' := by
  obtain ⟨hz, hsize⟩ := zero_of_info infoP
  obtain ⟨z, HZ⟩ := ex_eq (FL .i64 256 fun _ => 0)
  rw [HZ.out] at hz
  have Hzs : Away (z.size = 256) := ⟨by rw [← HZ.out]; exact fl_size _ _ _⟩
  have Hred : Away (∀ (f : Nat → Int) (w1 : World), Calls Try.prog 18 #[.agg (FL .i64 256 f)] w1 fun e w' => e = .returned (.agg (FL .i64 256 (red f))) ∧ Below w1.heap.size w1 w') := ⟨nred.reduced_any⟩
  obtain ⟨a, ha⟩ := ex_eq (red f)
  obtain ⟨b, hb⟩ := ex_eq (red g)
  have hba : Away (∀ i, 0 ≤ a i ∧ a i < 8380417) := ⟨fun i => by rw [← ha.out]; exact ⟨Int.emod_nonneg _ (by decide), Int.emod_lt_of_pos _ (by decide)⟩⟩
  have hbb : Away (∀ i, 0 ≤ b i ∧ b i < 8380417) := ⟨fun i => by rw [← hb.out]; exact ⟨Int.emod_nonneg _ (by decide), Int.emod_lt_of_pos _ (by decide)⟩⟩
  have Hra := fun w1 => Hred.out f w1
  have Hrb := fun w1 => Hred.out g w1
  rw [ha.out] at Hra
  rw [hb.out] at Hrb
  rw [ha.out, hb.out]
  have Hrc := fun w1 => Hred.out (mul 256 (-1) a b) w1
  clear ha hb
  obtain ⟨F, HF⟩ := ex_eq (FL .i64 256 f)
  obtain ⟨G, HG⟩ := ex_eq (FL .i64 256 g)
  obtain ⟨X, HX⟩ := ex_eq (FL .i64 256 a)
  obtain ⟨Y, HY⟩ := ex_eq (FL .i64 256 b)
  obtain ⟨C, HC⟩ := ex_eq (FL .i64 256 (mul 256 (-1) a b))
  obtain ⟨R, HR⟩ := ex_eq (FL .i64 256 (red (mul 256 (-1) a b)))
  rw [HF.out, HX.out] at Hra
  rw [HG.out, HY.out] at Hrb
  rw [HC.out, HR.out] at Hrc
  have Hra := Away.mk Hra
  have Hrb := Away.mk Hrb
  have Hrc := Away.mk Hrc
  have sz : ∀ h : Nat → Int, (Try.prog.info? 23).map (·.size) = some (FL .i64 256 h).size := fun h => by rw [fl_size]; exact hsize
  have Fi : Away ((Try.prog.info? 23).map (·.size) = some F.size) := ⟨by rw [← HF.out]; exact sz _⟩
  have Gi : Away ((Try.prog.info? 23).map (·.size) = some G.size) := ⟨by rw [← HG.out]; exact sz _⟩
  have Xi : Away ((Try.prog.info? 23).map (·.size) = some X.size) := ⟨by rw [← HX.out]; exact sz _⟩
  have Yi : Away ((Try.prog.info? 23).map (·.size) = some Y.size) := ⟨by rw [← HY.out]; exact sz _⟩
  have Ci : Away ((Try.prog.info? 23).map (·.size) = some C.size) := ⟨by rw [← HC.out]; exact sz _⟩
  have Ri : Away ((Try.prog.info? 23).map (·.size) = some R.size) := ⟨by rw [← HR.out]; exact sz _⟩
  have Xo : Away (X.all (·.oneCell') = true) := ⟨by rw [← HX.out]; exact fl_one _ _ _⟩
  have Yo : Away (Y.all (·.oneCell') = true) := ⟨by rw [← HY.out]; exact fl_one _ _ _⟩
  have Ro : Away (R.all (·.oneCell') = true) := ⟨by rw [← HR.out]; exact fl_one _ _ _⟩
  have Xz : Away (F.size = X.size) := ⟨by rw [← HF.out, ← HX.out, fl_size, fl_size]⟩
  have Yz : Away (G.size = Y.size) := ⟨by rw [← HG.out, ← HY.out, fl_size, fl_size]⟩
  have Rz : Away (z.size = R.size) := ⟨by rw [Hzs.out, ← HR.out, fl_size]⟩
  rw [HF.out, HG.out, HR.out]
  clear HF HG HR hsize sz
  go_enter Try.func11, Try.ntmps11
  go_wp2_with fail
  obtain ⟨W, hW⟩ : ∃ x, ((w.alloc (.cells F 23)).alloc (.cells G 23)).alloc (.cells z 23) = x := ⟨_, rfl⟩
  obtain ⟨b0, b1, b2, hWs, hWb⟩ := three hW
  rw [hW]
  clear hW
  have B0 := Away.mk b0
  have B1 := Away.mk b1
  have B2 := Away.mk b2
  have HWb := Away.mk hWb
  have HWs := Away.mk hWs
  clear hWs hWb b0 b1 b2
  refine region_below_tail 4 (by kernel_rfl) (by kernel_rfl) ?_
  refine wpQuiet_load rfl 23 _ rfl _ rfl 23 _ _ (fun w' hC => heap_regrown B0.out hC) Try.underlying23 rfl Fi.out ?_
  quiet_step (exact Calls.regrown_of (Hra.out _))
  refine wpQuiet_load rfl 23 _ rfl _ rfl 23 _ _ (fun w' hC => heap_regrown B1.out hC) Try.underlying23 rfl Gi.out ?_
  quiet_step (exact Calls.regrown_of (Hrb.out _))
  refine wpQuiet_nil ?_
  intro w3 hC
  have hb3 : Below W.heap.size W w3 := by
    obtain ⟨pp, rfl⟩ := hC
    exact below_regrown _ _ _
  have C0 : Away (w3.heap[w.heap.size]? = some (.cells F 23 (0, 0))) := ⟨(hb3.block _ (lt_of_row B0.out)).trans B0.out⟩
  have C1 : Away (w3.heap[w.heap.size + 1]? = some (.cells G 23 (0, 0))) := ⟨(hb3.block _ (lt_of_row B1.out)).trans B1.out⟩
  have C2 : Away (w3.heap[w.heap.size + 2]? = some (.cells z 23 (0, 0))) := ⟨(hb3.block _ (lt_of_row B2.out)).trans B2.out⟩
  have HB3 : Away (Below w.heap.size w w3) := ⟨HWb.out.trans (hb3.mono HWb.out.size)⟩
  have H3s : Away (w.heap.size + 3 ≤ w3.heap.size) := ⟨by have := hb3.size; have := HWs.out; omega⟩
  clear hC hb3 B0 B1 B2 HWb HWs
  simp only [List.drop_succ_cons, List.drop_zero]
  refine wpList_store_row rfl 23 _ _ rfl w.heap.size X rfl rfl 23 _ C0.out Xi.out Xz.out Xo.out ?_
  obtain ⟨w4, hw4⟩ : ∃ x, w3.setRow w.heap.size X = x := ⟨_, rfl⟩
  have D0 : Away (w4.heap[w.heap.size]? = some (.cells X 23 (0, 0))) := ⟨by rw [← hw4]; exact setRow_heap _ _ _ _ _ _ C0.out⟩
  have D1 : Away (w4.heap[w.heap.size + 1]? = some (.cells G 23 (0, 0))) := ⟨by rw [← hw4]; exact (setRow_other _ _ _ _ (by omega)).trans C1.out⟩
  have D2 : Away (w4.heap[w.heap.size + 2]? = some (.cells z 23 (0, 0))) := ⟨by rw [← hw4]; exact (setRow_other _ _ _ _ (by omega)).trans C2.out⟩
  have HB4 : Away (Below w.heap.size w w4) := ⟨by rw [← hw4]; exact HB3.out.trans (below_setRow _ _ _ (by omega))⟩
  have H4s : Away (w.heap.size + 3 ≤ w4.heap.size) := ⟨by rw [← hw4]; have := (below_setRow w3 w.heap.size X (Nat.le_refl w.heap.size)).size; have := H3s.out; omega⟩
  rw [hw4]
  clear hw4 C0 C1 C2 HB3 H3s
  refine wpList_store_row rfl 23 _ _ rfl (w.heap.size + 1) Y rfl rfl 23 _ D1.out Yi.out Yz.out Yo.out ?_
  obtain ⟨w5, hw5⟩ : ∃ x, w4.setRow (w.heap.size + 1) Y = x := ⟨_, rfl⟩
  have E0 : Away (w5.heap[w.heap.size]? = some (.cells X 23 (0, 0))) := ⟨by rw [← hw5]; exact (setRow_other _ _ _ _ (by omega)).trans D0.out⟩
  have E1 : Away (w5.heap[w.heap.size + 1]? = some (.cells Y 23 (0, 0))) := ⟨by rw [← hw5]; exact setRow_heap _ _ _ _ _ _ D1.out⟩
  have E2 : Away (w5.heap[w.heap.size + 2]? = some (.cells z 23 (0, 0))) := ⟨by rw [← hw5]; exact (setRow_other _ _ _ _ (by omega)).trans D2.out⟩
  have HB5 : Away (Below w.heap.size w w5) := ⟨by rw [← hw5]; exact HB4.out.trans (below_setRow _ _ _ (by omega))⟩
  have H5s : Away (w.heap.size + 3 ≤ w5.heap.size) := ⟨by rw [← hw5]; have := (below_setRow w4 (w.heap.size + 1) Y (Nat.le_refl _)).size; have := H4s.out; omega⟩
  rw [hw5]
  clear hw5 D0 D1 D2 HB4 H4s
  go_wp2_with fail
  have HY1 := HY
  obtain ⟨gc, hgc⟩ := ex_eq w5.heap.size
  obtain ⟨V, hV⟩ : ∃ x, w5.alloc (.cells z 23) = x := ⟨_, rfl⟩
  obtain ⟨v0, hVs, hVb⟩ := one hV
  rw [hV]
  clear hV
  have V0 : Away (V.heap[w.heap.size]? = some (.cells (FL .i64 256 a) 23 (0, 0))) := ⟨by rw [HX.out]; exact (hVb.block _ (lt_of_row E0.out)).trans E0.out⟩
  have V1 : Away (V.heap[w.heap.size + 1]? = some (.cells (FL .i64 256 b) 23 (0, 0))) := ⟨by rw [HY.out]; exact (hVb.block _ (lt_of_row E1.out)).trans E1.out⟩
  have V2 : Away (V.heap[w.heap.size + 2]? = some (.cells z 23 (0, 0))) := ⟨(hVb.block _ (lt_of_row E2.out)).trans E2.out⟩
  have HVB : Away (Below w.heap.size w V) := ⟨HB5.out.trans (hVb.mono HB5.out.size)⟩
  have HVs : Away (gc < V.heap.size ∧ w.heap.size + 3 ≤ gc) := ⟨by have := H5s.out; have := hgc.out; omega⟩
  rw [hgc.out] at v0
  rw [hgc.out]
  have A0' : Away (At gc (FL .i64 256 (sl a b 0 0)) 23 V V) := ⟨At.refl (by rw [sl_zero, HZ.out]; exact v0)⟩
  clear v0 hVs hVb hgc E0 E1 E2 HB5 H5s hz HX HY HY1
  go_loopw [13] (fun v wr => ∃ i : Nat, i ≤ 256 ∧ v = .int .i64 (i : Int) ∧ Away (At gc (FL .i64 256 (sl a b i 0)) 23 V wr)) (fun v _ => 256 - (intOf v).toNat)
  case atStart => exact ⟨0, Nat.zero_le _, rfl, A0'⟩
  case round =>
    obtain ⟨i, hi, rfl, A0⟩ := hrel
    by_cases hlt : i < 256
    · have hiz : (i : Int) < 256 := by omega
      go_wp2_with fail
      rename World => wo
      go_loopw [16] (fun v wr => ∃ j : Nat, j ≤ 256 ∧ v = .int .i64 (j : Int) ∧ Away (At gc (FL .i64 256 (sl a b i j)) 23 V wr)) (fun v _ => 256 - (intOf v).toNat)
      case atStart => exact ⟨0, Nat.zero_le _, rfl, A0⟩
      case round =>
        obtain ⟨j, hj, rfl, A1⟩ := hrel
        by_cases hlt2 : j < 256
        · have hjz : (j : Int) < 256 := by omega
          obtain ⟨x, hx⟩ : ∃ x, a i = x := ⟨_, rfl⟩
          obtain ⟨y, hy⟩ : ∃ y, b j = y := ⟨_, rfl⟩
          have hxb : 0 ≤ x ∧ x < 8380417 := by rw [← hx]; exact hba.out i
          have hyb : 0 ≤ y ∧ y < 8380417 := by rw [← hy]; exact hbb.out j
          have hmb : 0 ≤ x * y ∧ x * y ≤ 8380417 * 8380417 := ⟨Int.mul_nonneg hxb.1 hyb.1, Int.le_trans (Int.mul_le_mul_of_nonneg_right (Int.le_of_lt hxb.2) hyb.1) (Int.mul_le_mul_of_nonneg_left (Int.le_of_lt hyb.2) (by decide))⟩
          obtain ⟨m, hpe⟩ : ∃ m, x * y = m := ⟨_, rfl⟩
          rw [hpe] at hmb
          have f2 : IntKind.i64.wrap (x * y) = m := by rw [hpe, IntKind.wrap_i64]; omega
          obtain ⟨p, hpij⟩ : ∃ p, i + j = p := ⟨_, rfl⟩
          have f1 : IntKind.i64.wrap ((i : Int) + (j : Int)) = (p : Int) := by rw [IntKind.wrap_i64]; omega
          by_cases hp : p < 256
          · have hpz : (p : Int) < 256 := by omega
            obtain ⟨cv, hcv⟩ : ∃ cv, sl a b i j p = cv := ⟨_, rfl⟩
            have hcb := sl_bound a b hba.out hbb.out (i := i) (j := j) (p := p) hlt (by omega)
            rw [hcv] at hcb
            have cc : wr.cell? ⟨gc, p, none⟩ = some (.int .i64 cv) := by rw [← hcv]; exact fl_at A1.out.row p (by omega)
            have cx : wr.cell? ⟨w.heap.size, i, none⟩ = some (.int .i64 x) := by rw [← hx]; exact fl_at (A1.out.other (by have := HVs.out; omega) (by have := HVs.out; omega) V0.out) i hlt
            have cy : wr.cell? ⟨w.heap.size + 1, j, none⟩ = some (.int .i64 y) := by rw [← hy]; exact fl_at (A1.out.other (by have := HVs.out; omega) (by have := HVs.out; omega) V1.out) j hlt2
            have HU : Away (FL .i64 256 (upd (sl a b i j) p (cv + m)) = FL .i64 256 (sl a b i (j + 1))) := ⟨ntts.step a b hlt (by omega) (by rw [← hpij]; exact qx_low) _ (by rw [hcv, show tm a b i p = m from (by rw [← hpij, tm_low a b (by omega), hx, hy, hpe])])⟩
            have f3 : IntKind.i64.wrap (cv + m) = cv + m := by rw [IntKind.wrap_i64]; omega
            have Hp : Away (p < 256) := ⟨by omega⟩
            have hi256 : (i : Int) < 256 := by omega
            clear hcv hcb hx hy hpe hmb hxb hyb hpij
            have A2 : Away (At gc (FL .i64 256 (sl a b i j)) 23 V wr.drew) := ⟨at_drew A1.out⟩
            clear A1
            go_wp2_with fail
            refine still_tail 11 (by kernel_rfl) (by kernel_rfl) ?_
            simp only [List.take_succ_cons, List.take_zero, List.drop_succ_cons, List.drop_zero]
            repeat still_step
            refine wpStill_nil ?_
            clear cc cx cy
            refine wpList_plain rfl (fun K hK => ?_)
            go_simp
            refine hK _ _ ?_
            clear hK K
            with_reducible refine wpList_put2 A2 rfl _ _ _ rfl rfl ?_
            refine ⟨_, _, _, rfl, rfl, rfl, (by rw [fl_size]; exact Hp.out), ?_⟩
            intro w6 A3
            rw [fl_set, HU.out] at A3
            clear A2
            go_wp2_with fail
            go_roundw
            case rel => exact ⟨j + 1, by omega, by go_num, A3⟩
            case measure => simp [intOf]; omega
          · have hpz : ¬ (p : Int) < 256 := by omega
            obtain ⟨q, hqp⟩ : ∃ q, p - 256 = q := ⟨_, rfl⟩
            have f4 : IntKind.i64.wrap ((p : Int) - 256) = (q : Int) := by rw [IntKind.wrap_i64]; omega
            have hqz : (q : Int) < 256 := by omega
            obtain ⟨cv, hcv⟩ : ∃ cv, sl a b i j q = cv := ⟨_, rfl⟩
            have hcb := sl_bound a b hba.out hbb.out (i := i) (j := j) (p := q) hlt (by omega)
            rw [hcv] at hcb
            have cc : wr.cell? ⟨gc, q, none⟩ = some (.int .i64 cv) := by rw [← hcv]; exact fl_at A1.out.row q (by omega)
            have cx : wr.cell? ⟨w.heap.size, i, none⟩ = some (.int .i64 x) := by rw [← hx]; exact fl_at (A1.out.other (by have := HVs.out; omega) (by have := HVs.out; omega) V0.out) i hlt
            have cy : wr.cell? ⟨w.heap.size + 1, j, none⟩ = some (.int .i64 y) := by rw [← hy]; exact fl_at (A1.out.other (by have := HVs.out; omega) (by have := HVs.out; omega) V1.out) j hlt2
            have HU : Away (FL .i64 256 (upd (sl a b i j) q (cv - m)) = FL .i64 256 (sl a b i (j + 1))) := ⟨ntts.step a b hlt (by omega) (qx_high hlt2 (by omega)) _ (by rw [hcv, show tm a b i q = -m from (by rw [tm_high a b hlt hlt2 (by omega), hx, hy, hpe])]; omega)⟩
            have f3 : IntKind.i64.wrap (cv - m) = cv - m := by rw [IntKind.wrap_i64]; omega
            have Hp : Away (q < 256) := ⟨by omega⟩
            have hi256 : (i : Int) < 256 := by omega
            clear hcv hcb hx hy hpe hmb hxb hyb hpij hqp
            have A2 : Away (At gc (FL .i64 256 (sl a b i j)) 23 V wr.drew) := ⟨at_drew A1.out⟩
            clear A1
            go_wp2_with fail
            refine still_tail 12 (by kernel_rfl) (by kernel_rfl) ?_
            simp only [List.take_succ_cons, List.take_zero, List.drop_succ_cons, List.drop_zero]
            repeat still_step
            refine wpStill_nil ?_
            clear cc cx cy
            refine wpList_plain rfl (fun K hK => ?_)
            go_simp
            refine hK _ _ ?_
            clear hK K
            with_reducible refine wpList_put2 A2 rfl _ _ _ rfl rfl ?_
            refine ⟨_, _, _, rfl, rfl, rfl, (by rw [fl_size]; exact Hp.out), ?_⟩
            intro w6 A3
            rw [fl_set, HU.out] at A3
            clear A2
            go_wp2_with fail
            go_roundw
            case rel => exact ⟨j + 1, by omega, by go_num, A3⟩
            case measure => simp [intOf]; omega
        · obtain rfl : j = 256 := by omega
          simp only [Int.cast_ofNat_Int]
          rw [show FL .i64 256 (sl a b i 256) = FL .i64 256 (sl a b (i + 1) 0) from fl_congr .i64 256 fun p hp => sl_next a b hlt hp] at A1
          go_wp2_with fail
          go_roundw
          case rel => exact ⟨i + 1, by omega, by go_num, A1⟩
          case measure => simp [intOf]; omega
    · obtain rfl : i = 256 := by omega
      simp only [Int.cast_ofNat_Int]
      rw [show FL .i64 256 (sl a b 256 0) = FL .i64 256 (mul 256 (-1) a b) from fl_congr .i64 256 fun p _ => sl_all a b p, HC.out] at A0
      have Hrow := Away.mk A0.out.row
      have Hres : Away (wr.heap[w.heap.size + 2]? = some (.cells z 23 (0, 0))) := ⟨A0.out.other (by have := HVs.out; omega) (by have := HVs.out; omega) V2.out⟩
      have HB : Away (Below w.heap.size w wr) := ⟨HVB.out.trans (A0.out.below HVB.out.size (by have := HVs.out; omega))⟩
      clear A0
      go_wp2_with fail
      refine wp_load_row 23 _ rfl gc rfl 23 C (0, 0) _ Hrow.out Try.underlying23 rfl Ci.out ?_
      go_wp2_with fail
      refine (Hrc.out _).mono ?_
      rintro e w7 ⟨rfl, hb7⟩
      have Hres7 : Away (w7.heap[w.heap.size + 2]? = some (.cells z 23 (0, 0))) := ⟨(hb7.block _ (lt_of_row Hres.out)).trans Hres.out⟩
      have HB7 : Away (Below w.heap.size w w7) := ⟨HB.out.trans (hb7.mono HB.out.size)⟩
      clear hb7 Hres Hrow HB
      go_wp2_with (refine wpList_store_row rfl 23 _ _ rfl (w.heap.size + 2) R rfl rfl 23 _ Hres7.out Ri.out Rz.out Ro.out ?_)
      refine bodyPost_ret_by (v := .agg R) (results_cell_row rfl _ _ (w.heap.size + 2) 23 _ (0, 0) _ rfl (setRow_heap _ _ _ _ _ _ Hres7.out) Try.underlying23 rfl Ri.out) rfl ?_
      exact ⟨rfl, HB7.out.trans (below_setRow _ _ _ (by omega))⟩
end Go.Proofs.Ytbbealdamampaaa.nslow
