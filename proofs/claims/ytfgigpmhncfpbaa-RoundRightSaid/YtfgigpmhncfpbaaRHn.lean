/-
  What round.Hint returns. Conditions: none.
-/
import Derived.Test.YtfgigpmhncfpbaaRHi
import Derived.Test.YtfgigpmhncfpbaaFAd
import Derived.Test.YtfgigpmhncfpbaaPVr
namespace Go.Proofs.Ytfgigpmhncfpbaa.rhint
open Go Go.RowKit
open Go.Proofs.Ytfgigpmhncfpbaa.arr Go.Proofs.Ytfgigpmhncfpbaa.mem Go.Proofs.Ytfgigpmhncfpbaa.stil Go.Proofs.Ytfgigpmhncfpbaa.polys Go.Proofs.Ytfgigpmhncfpbaa.polt Go.Proofs.Ytfgigpmhncfpbaa.rndm Go.Proofs.Ytfgigpmhncfpbaa.rhigh Go.Proofs.Ytfgigpmhncfpbaa.vary Go.Proofs.Ytfgigpmhncfpbaa.varyn Go.Proofs.Ytfgigpmhncfpbaa.varye Go.Proofs.Ytfgigpmhncfpbaa.pvar

set_option maxRecDepth 100000 in
set_option maxHeartbeats 4000000 in
theorem hint_any (zf f : Nat → Int) (g : Int) (w : World) :
    Calls Try.prog 18 #[.agg (FL .i64 256 zf), .agg (FL .i64 256 f), .int .i64 g] w fun e w' => e = .returned (.agg (FL .i64 256 fun i => hn g (zf i) (f i))) ∧ Below w.heap.size w w' := by
  obtain ⟨hz, hsize⟩ := zero_of_info infoP
  obtain ⟨z, HZ⟩ := ex_eq (FL .i64 256 fun _ => 0)
  rw [HZ.out] at hz
  have Hzs : Away (z.size = 256) := ⟨by rw [← HZ.out]; exact fl_size _ _ _⟩
  obtain ⟨F, HF⟩ : ∃ F : Nat → Int, Away (F = fun i => hn g (zf i) (f i)) := ⟨_, ⟨rfl⟩⟩
  have HFi : Away (∀ i, F i = hn g (zf i) (f i)) := ⟨fun i => by rw [HF.out]⟩
  rw [← HF.out]
  clear HF
  obtain ⟨p, HP⟩ : ∃ p : Nat → Int, Away (p = fun i => hgh g (f i)) := ⟨_, ⟨rfl⟩⟩
  obtain ⟨s, HS⟩ : ∃ s : Nat → Int, Away (s = fun i => (f i + zf i) % 8380417) := ⟨_, ⟨rfl⟩⟩
  obtain ⟨q, HQ⟩ : ∃ q : Nat → Int, Away (q = fun i => hgh g (s i)) := ⟨_, ⟨rfl⟩⟩
  have HFq : Away (∀ i, F i = if p i = q i then 0 else 1) := ⟨fun i => by rw [HFi.out, HQ.out, HS.out, HP.out]; rfl⟩
  have sz : ∀ h : Nat → Int, (Try.prog.info? 30).map (·.size) = some (FL .i64 256 h).size := fun h => by rw [fl_size]; exact hsize
  obtain ⟨R, HR⟩ := ex_eq (FL .i64 256 F)
  have Ri : Away ((Try.prog.info? 30).map (·.size) = some R.size) := ⟨by rw [← HR.out]; exact sz _⟩
  have Ro : Away (R.all (·.oneCell') = true) := ⟨by rw [← HR.out]; exact fl_one _ _ _⟩
  have Rz : Away (z.size = R.size) := ⟨by rw [Hzs.out, ← HR.out, fl_size]⟩
  obtain ⟨I, HI⟩ := ex_eq (FL .i64 256 f)
  have Ii : Away ((Try.prog.info? 30).map (·.size) = some I.size) := ⟨by rw [← HI.out]; exact sz _⟩
  obtain ⟨J, HJ⟩ := ex_eq (FL .i64 256 zf)
  have Ji : Away ((Try.prog.info? 30).map (·.size) = some J.size) := ⟨by rw [← HJ.out]; exact sz _⟩
  obtain ⟨S, HSS⟩ := ex_eq (FL .i64 256 s)
  have Hh1 : Away (∀ w1 : World, Calls Try.prog 10 #[.agg I, .int .i64 g] w1 fun e w' => e = .returned (.agg (FL .i64 256 p)) ∧ Below w1.heap.size w1 w') := ⟨fun w1 => by rw [← HI.out, HP.out]; exact high_any f g w1⟩
  have Hh2 : Away (∀ w1 : World, Calls Try.prog 10 #[.agg S, .int .i64 g] w1 fun e w' => e = .returned (.agg (FL .i64 256 q)) ∧ Below w1.heap.size w1 w') := ⟨fun w1 => by rw [← HSS.out, HQ.out]; exact high_any s g w1⟩
  have Hadd : Away (∀ w1 : World, Calls Try.prog 21 #[.agg I, .agg J] w1 fun e w' => e = .returned (.agg S) ∧ Below w1.heap.size w1 w') := ⟨fun w1 => by rw [← HI.out, ← HJ.out, ← HSS.out, HS.out]; exact fadd.add_any f zf w1⟩
  rw [HR.out, HI.out, HJ.out]
  clear hsize sz HP HQ HS HSS HI HJ HFi
  go_enter Try.func18, Try.ntmps18
  go_wp2_with fail
  obtain ⟨W, hW⟩ : ∃ x, ((w.alloc (.cells J 30)).alloc (.cells I 30)).alloc (.cells z 30) = x := ⟨_, rfl⟩
  obtain ⟨b0, b1, b2, hWs, hWb⟩ := three hW
  rw [hW]
  clear hW
  have B0 := Away.mk b0
  have B1 := Away.mk b1
  have B2 := Away.mk b2
  have HWs : Away (w.heap.size + 3 ≤ W.heap.size) := ⟨by omega⟩
  have HWb := Away.mk hWb
  clear hWs hWb b0 b1 b2
  have Hhz := Away.mk hz
  clear hz
  refine region_vary_take [vrP 8 10 2 7 13, vrP 9 11 7 8 18] 8 (by kernel_rfl) (by kernel_rfl) (by kernel_rfl) (by kernel_rfl) (by decide) (fun v hv ρ o w1 ho => by
    simp only [List.mem_cons, List.not_mem_nil, or_false] at hv
    rcases hv with rfl | rfl <;> exact allocP ρ o w1 ho) (by simp [vrP]) (fun ops HO => ?_)
  simp only [List.take_succ_cons, List.take_zero]
  refine wpMild_load rfl 30 _ rfl _ rfl 30 _ _ (fun w9 hw9 => (hw9.block _ (lt_of_row B1.out)).trans B1.out) Try.underlying30 rfl Ii.out ?_
  refine wpMild_step rfl (fun K hK => ?_)
  go_simp
  apply Exists.intro
  refine ⟨fun w9 hw9 => rfl, hK _ ?_⟩
  clear hK K
  refine wpMild_step rfl (fun K hK => ?_)
  go_simp
  apply Exists.intro
  refine ⟨fun w9 hw9 => ?_, hK _ ?_⟩
  exact Hh1.out w9
  clear hK K
  refine wpMild_load rfl 30 _ rfl _ rfl 30 _ _ (fun w9 hw9 => (hw9.block _ (lt_of_row B1.out)).trans B1.out) Try.underlying30 rfl Ii.out ?_
  refine wpMild_load rfl 30 _ rfl _ rfl 30 _ _ (fun w9 hw9 => (hw9.block _ (lt_of_row B0.out)).trans B0.out) Try.underlying30 rfl Ji.out ?_
  refine wpMild_step rfl (fun K hK => ?_)
  go_simp
  apply Exists.intro
  refine ⟨fun w9 hw9 => ?_, hK _ ?_⟩
  exact Hadd.out w9
  clear hK K
  refine wpMild_step rfl (fun K hK => ?_)
  go_simp
  apply Exists.intro
  refine ⟨fun w9 hw9 => rfl, hK _ ?_⟩
  clear hK K
  refine wpMild_step rfl (fun K hK => ?_)
  go_simp
  apply Exists.intro
  refine ⟨fun w9 hw9 => ?_, hK _ ?_⟩
  exact Hh2.out w9
  clear hK K
  refine ends2 (FL .i64 256 p) (FL .i64 256 q) rfl (fitsP p) rfl (fitsP q) (by decide) (fun p1 p2 w6 l1 l2 n12 hb6 r1 r2 => ?_)
  simp only [vrP, Act.put, List.setIfInBounds_toArray, List.set_cons_zero, List.set_cons_succ] at r1 r2 ⊢
  have hz := Hhz.out
  have R1 := Away.mk r1
  have R2 := Away.mk r2
  have C2 : Away (w6.heap[w.heap.size + 2]? = some (.cells z 30 (0, 0))) := ⟨(hb6.block _ (lt_of_row B2.out)).trans B2.out⟩
  have Hb6 : Away (Below w.heap.size w w6) := ⟨HWb.out.trans (hb6.mono HWb.out.size)⟩
  have H6s : Away (w.heap.size + 3 ≤ w6.heap.size) := ⟨by have := hb6.size; have := HWs.out; omega⟩
  clear r1 r2 hb6 l1 l2 n12 B0 B1 B2 HWs HWb Hh1 Hh2 Hadd HO
  go_wp2_with fail
  clear hz Hhz
  obtain ⟨gh, hgh0⟩ := ex_eq w6.heap.size
  obtain ⟨V, hV⟩ : ∃ x, w6.alloc (.cells z 30) = x := ⟨_, rfl⟩
  obtain ⟨v0, hVs, hVb⟩ := one hV
  rw [hV]
  clear hV
  rw [hgh0.out] at v0
  rw [hgh0.out]
  have V1 : Away (V.heap[p1]? = some (.cells (FL .i64 256 p) 30 (0, 0))) := ⟨(hVb.block _ (lt_of_row R1.out)).trans R1.out⟩
  have V2 : Away (V.heap[p2]? = some (.cells (FL .i64 256 q) 30 (0, 0))) := ⟨(hVb.block _ (lt_of_row R2.out)).trans R2.out⟩
  have V3 : Away (V.heap[w.heap.size + 2]? = some (.cells z 30 (0, 0))) := ⟨(hVb.block _ (lt_of_row C2.out)).trans C2.out⟩
  have HVB : Away (Below w.heap.size w V) := ⟨Hb6.out.trans (hVb.mono Hb6.out.size)⟩
  have HVs : Away (gh < V.heap.size ∧ w.heap.size + 3 ≤ gh ∧ p1 < gh ∧ p2 < gh) := ⟨by have := H6s.out; have := hgh0.out; have := lt_of_row R1.out; have := lt_of_row R2.out; omega⟩
  have A0' : Away (At gh (FL .i64 256 (pt F (fun _ => 0) 0)) 30 V V) := ⟨At.refl (by rw [pt_zero, HZ.out]; exact v0)⟩
  clear v0 hVs hVb hgh0 R1 R2 C2 Hb6 H6s
  go_loopw [19] (fun v wr => ∃ i : Nat, i ≤ 256 ∧ v = .int .i64 (i : Int) ∧ Away (At gh (FL .i64 256 (pt F (fun _ => 0) i)) 30 V wr)) (fun v _ => 256 - (intOf v).toNat)
  case atStart => exact ⟨0, Nat.zero_le _, rfl, A0'⟩
  case round =>
    obtain ⟨i, hi, rfl, A0⟩ := hrel
    by_cases hlt : i < 256
    · have hiz : (i : Int) < 256 := by omega
      obtain ⟨x, hx⟩ : ∃ x, p i = x := ⟨_, rfl⟩
      obtain ⟨y, hy⟩ : ∃ y, q i = y := ⟨_, rfl⟩
      have cx : wr.cell? ⟨p1, i, none⟩ = some (.int .i64 x) := by rw [← hx]; exact fl_at (A0.out.other (by have := HVs.out; omega) (by have := HVs.out; omega) V1.out) i hlt
      have cy : wr.cell? ⟨p2, i, none⟩ = some (.int .i64 y) := by rw [← hy]; exact fl_at (A0.out.other (by have := HVs.out; omega) (by have := HVs.out; omega) V2.out) i hlt
      have HV : Away (F i = if x = y then 0 else 1) := ⟨by rw [HFq.out, hx, hy]⟩
      clear hx hy
      by_cases hxy : x = y
      · subst hxy
        have hne : (x != x) = false := by simp
        have HU : FL .i64 256 (pt F (fun _ => 0) i) = FL .i64 256 (pt F (fun _ => 0) (i + 1)) := by
          rw [← pt_upd F (fun _ => 0) i 0 (by rw [HV.out, if_pos rfl])]
          refine fl_congr _ _ fun j _ => ?_
          unfold polys.upd pt
          by_cases hj : j = i
          · subst hj; simp
          · rw [if_neg hj]
        rw [HU] at A0
        clear HU HV
        go_wp2_with fail
        refine still_all (by kernel_rfl) (by kernel_rfl) ?_
        repeat still_step
        refine wpStill_nil ?_
        clear cx cy
        go_wp2_with fail
        go_roundw
        case rel => exact ⟨i + 1, by omega, by go_num, ⟨at_drew A0.out⟩⟩
        case measure => simp [intOf]; omega
      · have hne : (x != y) = true := bne_iff_ne.2 hxy
        have HU : Away (polys.upd (pt F (fun _ => 0) i) i 1 = pt F (fun _ => 0) (i + 1)) := ⟨pt_upd F _ i 1 (by rw [HV.out, if_neg hxy])⟩
        clear HV hxy
        go_wp2_with fail
        refine still_all (by kernel_rfl) (by kernel_rfl) ?_
        repeat still_step
        refine wpStill_nil ?_
        clear cx cy
        have A1 : Away (At gh (FL .i64 256 (pt F (fun _ => 0) i)) 30 V wr.drew) := ⟨at_drew A0.out⟩
        clear A0
        go_wp2_with ((with_reducible refine wpList_put2 A1 rfl _ _ _ rfl rfl ?_); refine ⟨_, _, _, rfl, rfl, rfl, by rw [fl_size]; exact hlt, ?_⟩; intro wn A2; rw [fl_set, HU.out] at A2)
        go_roundw
        case rel => exact ⟨i + 1, by omega, by go_num, A2⟩
        case measure => simp [intOf]; omega
    · obtain rfl : i = 256 := by omega
      simp only [Int.cast_ofNat_Int]
      rw [fl_all, HR.out] at A0
      have Hrow := Away.mk A0.out.row
      have Hres : Away (wr.heap[w.heap.size + 2]? = some (.cells z 30 (0, 0))) := ⟨A0.out.other (by have := HVs.out; omega) (by have := HVs.out; omega) V3.out⟩
      have HB : Away (Below w.heap.size w wr) := ⟨HVB.out.trans (A0.out.below HVB.out.size (by have := HVs.out; omega))⟩
      clear A0
      go_wp2_with (first
        | (refine wpList_load_row rfl 30 _ rfl gh rfl 30 R (0, 0) _ Hrow.out Try.underlying30 rfl Ri.out ?_)
        | (refine wpList_store_row rfl 30 _ _ rfl (w.heap.size + 2) R rfl rfl 30 _ Hres.out Ri.out Rz.out Ro.out ?_))
      refine bodyPost_ret_by (v := .agg R) (results_cell_row rfl _ _ (w.heap.size + 2) 30 _ (0, 0) _ rfl (setRow_heap _ _ _ _ _ _ Hres.out) Try.underlying30 rfl Ri.out) rfl ?_
      exact ⟨rfl, HB.out.trans (below_setRow _ _ _ (by omega))⟩
end Go.Proofs.Ytfgigpmhncfpbaa.rhint
