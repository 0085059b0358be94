/-
  What round.Use returns. Conditions: none.
-/
import Derived.Test.YtfgigpmhncfpbaaRPt
import Derived.Test.YtfgigpmhncfpbaaPot
namespace Go.Proofs.Ytfgigpmhncfpbaa.ruse
open Go Go.RowKit
open Go.Proofs.Ytfgigpmhncfpbaa.arr Go.Proofs.Ytfgigpmhncfpbaa.mem Go.Proofs.Ytfgigpmhncfpbaa.stil Go.Proofs.Ytfgigpmhncfpbaa.polys Go.Proofs.Ytfgigpmhncfpbaa.polt Go.Proofs.Ytfgigpmhncfpbaa.rndm Go.Proofs.Ytfgigpmhncfpbaa.rpart

theorem us_bad {g : Int} (hg : okg g = false) (h x : Int) : us g h x = 0 := by unfold us; rw [if_neg (by rw [hg]; decide)]
theorem built0 : Try.prog.built 30 [] = some (FL .i64 256 fun _ => 0) := by kernel_rfl
set_option maxRecDepth 100000 in
set_option maxHeartbeats 4000000 in
theorem use_bad (hf f : Nat → Int) (g : Int) (hg : okg g = false) (w : World) :
    Calls Try.prog 19 #[.agg (FL .i64 256 hf), .agg (FL .i64 256 f), .int .i64 g] w fun e w' => e = .returned (.agg (FL .i64 256 fun i => us g (hf i) (f i))) ∧ Below w.heap.size w w' := by
  have e0 : FL .i64 256 (fun i => us g (hf i) (f i)) = FL .i64 256 fun _ => 0 := fl_congr _ _ fun i _ => us_bad hg _ _
  rw [e0]
  clear e0
  obtain ⟨hz, hsize⟩ := zero_of_info infoP
  have hb := built0
  obtain ⟨z, HZ⟩ := ex_eq (FL .i64 256 fun _ => 0)
  rw [HZ.out] at hz hb
  have Zi : Away ((Try.prog.info? 30).map (·.size) = some z.size) := ⟨by rw [← HZ.out, fl_size]; exact hsize⟩
  have Zo : Away (z.all (·.oneCell') = true) := ⟨by rw [← HZ.out]; exact fl_one _ _ _⟩
  obtain ⟨I, HI⟩ := ex_eq (FL .i64 256 f)
  obtain ⟨J, HJ⟩ := ex_eq (FL .i64 256 hf)
  rw [HZ.out, HI.out, HJ.out]
  clear hsize
  have Hb := Away.mk hb
  clear hb
  have Hg := gamma_any g
  rw [hg] at Hg
  go_enter Try.func19, Try.ntmps19
  go_wp2_with fail
  refine (Hg _).mono ?_
  rintro e w1 ⟨rfl, rfl⟩
  obtain ⟨W, hW⟩ : ∃ x, ((w.alloc (.cells J 30)).alloc (.cells I 30)).alloc (.cells z 30) = x := ⟨_, rfl⟩
  obtain ⟨b0, b1, b2, hWs, hWb⟩ := three hW
  rw [hW]
  clear hW
  go_wp2_with (first
    | (refine wpList_builtC rfl 30 _ rfl z Hb.out ?_)
    | (refine wpList_store_row rfl 30 _ _ rfl (w.heap.size + 2) z rfl rfl 30 _ b2 Zi.out rfl Zo.out ?_))
  refine bodyPost_ret_by (v := .agg z) (results_cell_row rfl _ _ (w.heap.size + 2) 30 _ (0, 0) _ rfl (setRow_heap _ _ _ _ _ _ b2) Try.underlying30 rfl Zi.out) rfl ?_
  exact ⟨rfl, hWb.trans (below_setRow _ _ _ (by omega))⟩
set_option maxRecDepth 100000 in
set_option maxHeartbeats 4000000 in
theorem use_95232 (hf f : Nat → Int) (w : World) :
    Calls Try.prog 19 #[.agg (FL .i64 256 hf), .agg (FL .i64 256 f), .int .i64 95232] w fun e w' => e = .returned (.agg (FL .i64 256 fun i => us 95232 (hf i) (f i))) ∧ Below w.heap.size w w' := by
  obtain ⟨hz, hsize⟩ := zero_of_info infoP
  obtain ⟨z, HZ⟩ := ex_eq (FL .i64 256 fun _ => 0)
  rw [HZ.out] at hz
  have Hzs : Away (z.size = 256) := ⟨by rw [← HZ.out]; exact fl_size _ _ _⟩
  obtain ⟨F, HF⟩ : ∃ F : Nat → Int, Away (F = fun i => us 95232 (hf i) (f i)) := ⟨_, ⟨rfl⟩⟩
  have HFi : Away (∀ i, F i = us 95232 (hf i) (f i)) := ⟨fun i => by rw [HF.out]⟩
  rw [← HF.out]
  clear HF
  have sz : ∀ h : Nat → Int, (Try.prog.info? 30).map (·.size) = some (FL .i64 256 h).size := fun h => by rw [fl_size]; exact hsize
  obtain ⟨R, HR⟩ := ex_eq (FL .i64 256 F)
  have Ri : Away ((Try.prog.info? 30).map (·.size) = some R.size) := ⟨by rw [← HR.out]; exact sz _⟩
  have Ro : Away (R.all (·.oneCell') = true) := ⟨by rw [← HR.out]; exact fl_one _ _ _⟩
  have Rz : Away (z.size = R.size) := ⟨by rw [Hzs.out, ← HR.out, fl_size]⟩
  obtain ⟨I, HI⟩ := ex_eq (FL .i64 256 f)
  have Ii : Away ((Try.prog.info? 30).map (·.size) = some I.size) := ⟨by rw [← HI.out]; exact sz _⟩
  obtain ⟨J, HJ⟩ := ex_eq (FL .i64 256 hf)
  rw [HR.out, HI.out, HJ.out]
  clear hsize sz
  have Hg : ∀ w1 : World, Calls Try.prog 15 #[.int .i64 95232] w1 fun e w' => e = .returned (.bool true) ∧ w' = w1 := fun w1 => by have h := gamma_any 95232 w1; rw [okg_a] at h; exact h
  have Hix : Away (∀ (i : Nat), i < 256 → ∀ w1 : World, (Instr.index 30 (.agg I) (.int .i64 (i : Int))).run Try.prog w1 = .ok (.int .i64 (f i)) w1) := ⟨fun i hi w1 => by rw [← HI.out]; exact index_poly f i hi w1⟩
  have Hpart := Away.mk parts_any
  go_enter Try.func19, Try.ntmps19
  go_wp2_with fail
  refine (Hg _).mono ?_
  rintro e w1 ⟨rfl, rfl⟩
  go_wp2_with fail
  clear hz
  obtain ⟨W, hW⟩ : ∃ x, ((w.alloc (.cells J 30)).alloc (.cells I 30)).alloc (.cells z 30) = x := ⟨_, rfl⟩
  obtain ⟨b0, b1, b2, hWs, hWb⟩ := three hW
  rw [hW]
  clear hW
  have B0 : Away (W.heap[w.heap.size]? = some (.cells (FL .i64 256 hf) 30 (0, 0))) := ⟨by rw [HJ.out]; exact b0⟩
  have B1 := Away.mk b1
  have B2 := Away.mk b2
  have HWs : Away (w.heap.size + 3 ≤ W.heap.size) := ⟨by omega⟩
  have HWb := Away.mk hWb
  clear hWs hWb b0 b1 b2
  refine wp_load_row 30 _ rfl (w.heap.size + 1) rfl 30 I (0, 0) _ B1.out Try.underlying30 rfl Ii.out ?_
  go_wp2_with fail
  go_loopw [20] (fun v wr => ∃ i : Nat, i ≤ 256 ∧ v = .int .i64 (i : Int) ∧ Away (At (w.heap.size + 1) (FL .i64 256 (pt F f i)) 30 W wr)) (fun v _ => 256 - (intOf v).toNat)
  case atStart => exact ⟨0, Nat.zero_le _, rfl, ⟨by rw [pt_zero, HI.out]; exact At.refl B1.out⟩⟩
  case round =>
    obtain ⟨i, hi, rfl, A0⟩ := hrel
    by_cases hlt : i < 256
    · have hiz : (i : Int) < 256 := by omega
      have hx0 := Hix.out i hlt wr
      obtain ⟨x, hx⟩ : ∃ x, f i = x := ⟨_, rfl⟩
      rw [hx] at hx0
      obtain ⟨y, hy⟩ : ∃ y, hf i = y := ⟨_, rfl⟩
      have cy : wr.cell? ⟨w.heap.size, i, none⟩ = some (.int .i64 y) := by rw [← hy]; exact fl_at (A0.out.other (by have := HWs.out; omega) (by omega) B0.out) i hlt
      have HV : Away (F i = us 95232 y x) := ⟨by rw [HFi.out, hx, hy]⟩
      have Hp := Hpart.out x 95232
      have hb := rndm.parts_95232 x
      have HU0 : Away (us 95232 y x = if y = 0 then hgh 95232 x else if 0 < lw 95232 x then (hgh 95232 x + 1) % 44 else (hgh 95232 x + 44 - 1) % 44) := ⟨by unfold us; rw [if_pos okg_a]; rfl⟩
      obtain ⟨h0, hh0⟩ := ex_eq (hgh 95232 x)
      obtain ⟨l0, hl0⟩ := ex_eq (lw 95232 x)
      rw [hh0.out, hl0.out] at Hp HU0 hb
      have hbb := hb.1
      have hbc := hb.2.1
      clear hx hy hb hh0 hl0
      by_cases h1 : y = 0
      · have h1b : (y == 0) = true := by rw [h1]; rfl
        have HU : Away (polys.upd (pt F f i) i h0 = pt F f (i + 1)) := ⟨pt_upd F f i h0 (by rw [HV.out, HU0.out, if_pos h1])⟩
        clear h1 HV HU0 hbb hbc
        go_wp2_with fail
        refine (Hp _).mono ?_
        rintro e wx ⟨rfl, rfl⟩
        go_wp2_with ((with_reducible refine wpList_put2 A0 rfl _ _ _ rfl rfl ?_); refine ⟨_, _, _, rfl, rfl, rfl, by rw [fl_size]; exact hlt, ?_⟩; intro wn A2; rw [fl_set, HU.out] at A2)
        go_roundw
        case rel => exact ⟨i + 1, by omega, by go_num, A2⟩
        case measure => simp [intOf]; omega
      · have h1b : (y == 0) = false := beq_eq_false_iff_ne.2 h1
        by_cases h2 : 0 < l0
        · obtain ⟨n, hn⟩ : ∃ n, h0 + 1 = n := ⟨_, rfl⟩
          have f1 : IntKind.i64.wrap (h0 + 1) = n := by rw [IntKind.wrap_i64]; omega
          obtain ⟨v, hv⟩ : ∃ v, n % 44 = v := ⟨_, rfl⟩
          have f2 : n.tmod 44 = v := by rw [Int.tmod_eq_emod_of_nonneg (by omega)]; exact hv
          have f4 : n % 44 = v := hv
          have f3 : IntKind.i64.wrap v = v := by rw [IntKind.wrap_i64]; omega
          have HU : Away (polys.upd (pt F f i) i v = pt F f (i + 1)) := ⟨pt_upd F f i v (by rw [HV.out, HU0.out, if_neg h1, if_pos h2, hn, hv])⟩
          have hn0 : 0 ≤ n := by omega
          clear h1 HV HU0 hbb hbc hn hv
          go_wp2_with fail
          refine (Hp _).mono ?_
          rintro e wx ⟨rfl, rfl⟩
          go_wp2_with ((with_reducible refine wpList_put2 A0 rfl _ _ _ rfl rfl ?_); refine ⟨_, _, _, rfl, rfl, rfl, by rw [fl_size]; exact hlt, ?_⟩; intro wn A2; rw [fl_set, HU.out] at A2)
          go_roundw
          case rel => exact ⟨i + 1, by omega, by go_num, A2⟩
          case measure => simp [intOf]; omega
        · obtain ⟨m, hm⟩ : ∃ m, h0 + 44 = m := ⟨_, rfl⟩
          have f0 : IntKind.i64.wrap (h0 + 44) = m := by rw [IntKind.wrap_i64]; omega
          obtain ⟨n, hn⟩ : ∃ n, m - 1 = n := ⟨_, rfl⟩
          have f1 : IntKind.i64.wrap (m - 1) = n := by rw [IntKind.wrap_i64]; omega
          obtain ⟨v, hv⟩ : ∃ v, n % 44 = v := ⟨_, rfl⟩
          have f2 : n.tmod 44 = v := by rw [Int.tmod_eq_emod_of_nonneg (by omega)]; exact hv
          have f4 : n % 44 = v := hv
          have f3 : IntKind.i64.wrap v = v := by rw [IntKind.wrap_i64]; omega
          have HU : Away (polys.upd (pt F f i) i v = pt F f (i + 1)) := ⟨pt_upd F f i v (by rw [HV.out, HU0.out, if_neg h1, if_neg h2, hm, hn, hv])⟩
          have hn0 : 0 ≤ n := by omega
          clear h1 HV HU0 hbb hbc hn hv hm
          go_wp2_with fail
          refine (Hp _).mono ?_
          rintro e wx ⟨rfl, rfl⟩
          go_wp2_with ((with_reducible refine wpList_put2 A0 rfl _ _ _ rfl rfl ?_); refine ⟨_, _, _, rfl, rfl, rfl, by rw [fl_size]; exact hlt, ?_⟩; intro wn A2; rw [fl_set, HU.out] at A2)
          go_roundw
          case rel => exact ⟨i + 1, by omega, by go_num, A2⟩
          case measure => simp [intOf]; omega
    · obtain rfl : i = 256 := by omega
      simp only [Int.cast_ofNat_Int]
      rw [fl_all, HR.out] at A0
      have Hrow := Away.mk A0.out.row
      have Hres : Away (wr.heap[w.heap.size + 2]? = some (.cells z 30 (0, 0))) := ⟨A0.out.other (by have := HWs.out; omega) (by omega) B2.out⟩
      have HB : Away (Below w.heap.size w wr) := ⟨HWb.out.trans (A0.out.below (by have := HWs.out; omega) (by omega))⟩
      clear A0
      go_wp2_with (first
        | (refine wpList_load_row rfl 30 _ rfl (w.heap.size + 1) rfl 30 R (0, 0) _ Hrow.out Try.underlying30 rfl Ri.out ?_)
        | (refine wpList_store_row rfl 30 _ _ rfl (w.heap.size + 2) R rfl rfl 30 _ Hres.out Ri.out Rz.out Ro.out ?_))
      refine bodyPost_ret_by (v := .agg R) (results_cell_row rfl _ _ (w.heap.size + 2) 30 _ (0, 0) _ rfl (setRow_heap _ _ _ _ _ _ Hres.out) Try.underlying30 rfl Ri.out) rfl ?_
      exact ⟨rfl, HB.out.trans (below_setRow _ _ _ (by omega))⟩
set_option maxRecDepth 100000 in
set_option maxHeartbeats 4000000 in
theorem use_261888 (hf f : Nat → Int) (w : World) :
    Calls Try.prog 19 #[.agg (FL .i64 256 hf), .agg (FL .i64 256 f), .int .i64 261888] w fun e w' => e = .returned (.agg (FL .i64 256 fun i => us 261888 (hf i) (f i))) ∧ Below w.heap.size w w' := by
  obtain ⟨hz, hsize⟩ := zero_of_info infoP
  obtain ⟨z, HZ⟩ := ex_eq (FL .i64 256 fun _ => 0)
  rw [HZ.out] at hz
  have Hzs : Away (z.size = 256) := ⟨by rw [← HZ.out]; exact fl_size _ _ _⟩
  obtain ⟨F, HF⟩ : ∃ F : Nat → Int, Away (F = fun i => us 261888 (hf i) (f i)) := ⟨_, ⟨rfl⟩⟩
  have HFi : Away (∀ i, F i = us 261888 (hf i) (f i)) := ⟨fun i => by rw [HF.out]⟩
  rw [← HF.out]
  clear HF
  have sz : ∀ h : Nat → Int, (Try.prog.info? 30).map (·.size) = some (FL .i64 256 h).size := fun h => by rw [fl_size]; exact hsize
  obtain ⟨R, HR⟩ := ex_eq (FL .i64 256 F)
  have Ri : Away ((Try.prog.info? 30).map (·.size) = some R.size) := ⟨by rw [← HR.out]; exact sz _⟩
  have Ro : Away (R.all (·.oneCell') = true) := ⟨by rw [← HR.out]; exact fl_one _ _ _⟩
  have Rz : Away (z.size = R.size) := ⟨by rw [Hzs.out, ← HR.out, fl_size]⟩
  obtain ⟨I, HI⟩ := ex_eq (FL .i64 256 f)
  have Ii : Away ((Try.prog.info? 30).map (·.size) = some I.size) := ⟨by rw [← HI.out]; exact sz _⟩
  obtain ⟨J, HJ⟩ := ex_eq (FL .i64 256 hf)
  rw [HR.out, HI.out, HJ.out]
  clear hsize sz
  have Hg : ∀ w1 : World, Calls Try.prog 15 #[.int .i64 261888] w1 fun e w' => e = .returned (.bool true) ∧ w' = w1 := fun w1 => by have h := gamma_any 261888 w1; rw [okg_b] at h; exact h
  have Hix : Away (∀ (i : Nat), i < 256 → ∀ w1 : World, (Instr.index 30 (.agg I) (.int .i64 (i : Int))).run Try.prog w1 = .ok (.int .i64 (f i)) w1) := ⟨fun i hi w1 => by rw [← HI.out]; exact index_poly f i hi w1⟩
  have Hpart := Away.mk parts_any
  go_enter Try.func19, Try.ntmps19
  go_wp2_with fail
  refine (Hg _).mono ?_
  rintro e w1 ⟨rfl, rfl⟩
  go_wp2_with fail
  clear hz
  obtain ⟨W, hW⟩ : ∃ x, ((w.alloc (.cells J 30)).alloc (.cells I 30)).alloc (.cells z 30) = x := ⟨_, rfl⟩
  obtain ⟨b0, b1, b2, hWs, hWb⟩ := three hW
  rw [hW]
  clear hW
  have B0 : Away (W.heap[w.heap.size]? = some (.cells (FL .i64 256 hf) 30 (0, 0))) := ⟨by rw [HJ.out]; exact b0⟩
  have B1 := Away.mk b1
  have B2 := Away.mk b2
  have HWs : Away (w.heap.size + 3 ≤ W.heap.size) := ⟨by omega⟩
  have HWb := Away.mk hWb
  clear hWs hWb b0 b1 b2
  refine wp_load_row 30 _ rfl (w.heap.size + 1) rfl 30 I (0, 0) _ B1.out Try.underlying30 rfl Ii.out ?_
  go_wp2_with fail
  go_loopw [20] (fun v wr => ∃ i : Nat, i ≤ 256 ∧ v = .int .i64 (i : Int) ∧ Away (At (w.heap.size + 1) (FL .i64 256 (pt F f i)) 30 W wr)) (fun v _ => 256 - (intOf v).toNat)
  case atStart => exact ⟨0, Nat.zero_le _, rfl, ⟨by rw [pt_zero, HI.out]; exact At.refl B1.out⟩⟩
  case round =>
    obtain ⟨i, hi, rfl, A0⟩ := hrel
    by_cases hlt : i < 256
    · have hiz : (i : Int) < 256 := by omega
      have hx0 := Hix.out i hlt wr
      obtain ⟨x, hx⟩ : ∃ x, f i = x := ⟨_, rfl⟩
      rw [hx] at hx0
      obtain ⟨y, hy⟩ : ∃ y, hf i = y := ⟨_, rfl⟩
      have cy : wr.cell? ⟨w.heap.size, i, none⟩ = some (.int .i64 y) := by rw [← hy]; exact fl_at (A0.out.other (by have := HWs.out; omega) (by omega) B0.out) i hlt
      have HV : Away (F i = us 261888 y x) := ⟨by rw [HFi.out, hx, hy]⟩
      have Hp := Hpart.out x 261888
      have hb := rndm.parts_261888 x
      have HU0 : Away (us 261888 y x = if y = 0 then hgh 261888 x else if 0 < lw 261888 x then (hgh 261888 x + 1) % 16 else (hgh 261888 x + 16 - 1) % 16) := ⟨by unfold us; rw [if_pos okg_b]; rfl⟩
      obtain ⟨h0, hh0⟩ := ex_eq (hgh 261888 x)
      obtain ⟨l0, hl0⟩ := ex_eq (lw 261888 x)
      rw [hh0.out, hl0.out] at Hp HU0 hb
      have hbb := hb.1
      have hbc := hb.2.1
      clear hx hy hb hh0 hl0
      by_cases h1 : y = 0
      · have h1b : (y == 0) = true := by rw [h1]; rfl
        have HU : Away (polys.upd (pt F f i) i h0 = pt F f (i + 1)) := ⟨pt_upd F f i h0 (by rw [HV.out, HU0.out, if_pos h1])⟩
        clear h1 HV HU0 hbb hbc
        go_wp2_with fail
        refine (Hp _).mono ?_
        rintro e wx ⟨rfl, rfl⟩
        go_wp2_with ((with_reducible refine wpList_put2 A0 rfl _ _ _ rfl rfl ?_); refine ⟨_, _, _, rfl, rfl, rfl, by rw [fl_size]; exact hlt, ?_⟩; intro wn A2; rw [fl_set, HU.out] at A2)
        go_roundw
        case rel => exact ⟨i + 1, by omega, by go_num, A2⟩
        case measure => simp [intOf]; omega
      · have h1b : (y == 0) = false := beq_eq_false_iff_ne.2 h1
        by_cases h2 : 0 < l0
        · obtain ⟨n, hn⟩ : ∃ n, h0 + 1 = n := ⟨_, rfl⟩
          have f1 : IntKind.i64.wrap (h0 + 1) = n := by rw [IntKind.wrap_i64]; omega
          obtain ⟨v, hv⟩ : ∃ v, n % 16 = v := ⟨_, rfl⟩
          have f2 : n.tmod 16 = v := by rw [Int.tmod_eq_emod_of_nonneg (by omega)]; exact hv
          have f4 : n % 16 = v := hv
          have f3 : IntKind.i64.wrap v = v := by rw [IntKind.wrap_i64]; omega
          have HU : Away (polys.upd (pt F f i) i v = pt F f (i + 1)) := ⟨pt_upd F f i v (by rw [HV.out, HU0.out, if_neg h1, if_pos h2, hn, hv])⟩
          have hn0 : 0 ≤ n := by omega
          clear h1 HV HU0 hbb hbc hn hv
          go_wp2_with fail
          refine (Hp _).mono ?_
          rintro e wx ⟨rfl, rfl⟩
          go_wp2_with ((with_reducible refine wpList_put2 A0 rfl _ _ _ rfl rfl ?_); refine ⟨_, _, _, rfl, rfl, rfl, by rw [fl_size]; exact hlt, ?_⟩; intro wn A2; rw [fl_set, HU.out] at A2)
          go_roundw
          case rel => exact ⟨i + 1, by omega, by go_num, A2⟩
          case measure => simp [intOf]; omega
        · obtain ⟨m, hm⟩ : ∃ m, h0 + 16 = m := ⟨_, rfl⟩
          have f0 : IntKind.i64.wrap (h0 + 16) = m := by rw [IntKind.wrap_i64]; omega
          obtain ⟨n, hn⟩ : ∃ n, m - 1 = n := ⟨_, rfl⟩
          have f1 : IntKind.i64.wrap (m - 1) = n := by rw [IntKind.wrap_i64]; omega
          obtain ⟨v, hv⟩ : ∃ v, n % 16 = v := ⟨_, rfl⟩
          have f2 : n.tmod 16 = v := by rw [Int.tmod_eq_emod_of_nonneg (by omega)]; exact hv
          have f4 : n % 16 = v := hv
          have f3 : IntKind.i64.wrap v = v := by rw [IntKind.wrap_i64]; omega
          have HU : Away (polys.upd (pt F f i) i v = pt F f (i + 1)) := ⟨pt_upd F f i v (by rw [HV.out, HU0.out, if_neg h1, if_neg h2, hm, hn, hv])⟩
          have hn0 : 0 ≤ n := by omega
          clear h1 HV HU0 hbb hbc hn hv hm
          go_wp2_with fail
          refine (Hp _).mono ?_
          rintro e wx ⟨rfl, rfl⟩
          go_wp2_with ((with_reducible refine wpList_put2 A0 rfl _ _ _ rfl rfl ?_); refine ⟨_, _, _, rfl, rfl, rfl, by rw [fl_size]; exact hlt, ?_⟩; intro wn A2; rw [fl_set, HU.out] at A2)
          go_roundw
          case rel => exact ⟨i + 1, by omega, by go_num, A2⟩
          case measure => simp [intOf]; omega
    · obtain rfl : i = 256 := by omega
      simp only [Int.cast_ofNat_Int]
      rw [fl_all, HR.out] at A0
      have Hrow := Away.mk A0.out.row
      have Hres : Away (wr.heap[w.heap.size + 2]? = some (.cells z 30 (0, 0))) := ⟨A0.out.other (by have := HWs.out; omega) (by omega) B2.out⟩
      have HB : Away (Below w.heap.size w wr) := ⟨HWb.out.trans (A0.out.below (by have := HWs.out; omega) (by omega))⟩
      clear A0
      go_wp2_with (first
        | (refine wpList_load_row rfl 30 _ rfl (w.heap.size + 1) rfl 30 R (0, 0) _ Hrow.out Try.underlying30 rfl Ri.out ?_)
        | (refine wpList_store_row rfl 30 _ _ rfl (w.heap.size + 2) R rfl rfl 30 _ Hres.out Ri.out Rz.out Ro.out ?_))
      refine bodyPost_ret_by (v := .agg R) (results_cell_row rfl _ _ (w.heap.size + 2) 30 _ (0, 0) _ rfl (setRow_heap _ _ _ _ _ _ Hres.out) Try.underlying30 rfl Ri.out) rfl ?_
      exact ⟨rfl, HB.out.trans (below_setRow _ _ _ (by omega))⟩
theorem use_any (hf f : Nat → Int) (g : Int) (w : World) :
    Calls Try.prog 19 #[.agg (FL .i64 256 hf), .agg (FL .i64 256 f), .int .i64 g] w fun e w' => e = .returned (.agg (FL .i64 256 fun i => us g (hf i) (f i))) ∧ Below w.heap.size w w' := by
  cases h : okg g
  · exact use_bad hf f g h w
  · rcases okg_of h with rfl | rfl
    · exact use_95232 hf f w
    · exact use_261888 hf f w
end Go.Proofs.Ytfgigpmhncfpbaa.ruse
