/-
  What round.Split returns. Conditions: none.
-/
import Derived.Test.YtlcafjdehcddcaaGreatDoorFlA
import Derived.Test.YtlcafjdehcddcaaGreatDoorPuA
import Derived.Test.YtlcafjdehcddcaaGreatDoorTwR
namespace Go.Proofs.YtlcafjdehcddcaaGreatDoor
namespace rsplit
open Go Go.RowKit
open arr mem stil polys polt fldm fld1 rndm floa twor
set_option maxRecDepth 100000 in
set_option maxHeartbeats 4000000 in
theorem split_any (f : Nat → Int) (w : World) :
 Calls Tryz.prog 84 #[.agg (FL .i64 256 f)] w fun e w' => e = .returned (.tuple #[.agg (FL .i64 256 fun i => sh (f i)), .agg (FL .i64 256 fun i => sl (f i) % 8380417)]) ∧ Below w.heap.size w w' := by
 obtain ⟨hz, hsize⟩ := zero_of_info infoP
 obtain ⟨z, HZ⟩ := ex_eq (FL .i64 256 fun _ => 0)
 rw [HZ.out] at hz
 have Hzs : Away (z.size = 256) := ⟨by rw [← HZ.out]; exact fl_size _ _ _⟩
 obtain ⟨F, HF⟩ : ∃ F : Nat → Int, Away (F = fun i => sh (f i)) := ⟨_, ⟨rfl⟩⟩
 have HFi : Away (∀ i, F i = sh (f i)) := ⟨fun i => by rw [HF.out]⟩
 obtain ⟨G, HG⟩ : ∃ G : Nat → Int, Away (G = fun i => sl (f i) % 8380417) := ⟨_, ⟨rfl⟩⟩
 have HGi : Away (∀ i, G i = sl (f i) % 8380417) := ⟨fun i => by rw [HG.out]⟩
 rw [← HF.out, ← HG.out]
 clear HF HG
 have sz : ∀ h : Nat → Int, (Tryz.prog.info? 25).map (·.size) = some (FL .i64 256 h).size := fun h => by rw [fl_size]; exact hsize
 obtain ⟨R, HR⟩ := ex_eq (FL .i64 256 F)
 have Ri : Away ((Tryz.prog.info? 25).map (·.size) = some R.size) := ⟨by rw [← HR.out]; exact sz _⟩
 have Ro : Away (R.all (·.oneCell') = true) := ⟨by rw [← HR.out]; exact fl_one _ _ _⟩
 have Rz : Away (z.size = R.size) := ⟨by rw [Hzs.out, ← HR.out, fl_size]⟩
 obtain ⟨S, HS⟩ := ex_eq (FL .i64 256 G)
 have Si : Away ((Tryz.prog.info? 25).map (·.size) = some S.size) := ⟨by rw [← HS.out]; exact sz _⟩
 have So : Away (S.all (·.oneCell') = true) := ⟨by rw [← HS.out]; exact fl_one _ _ _⟩
 have Sz : Away (z.size = S.size) := ⟨by rw [Hzs.out, ← HS.out, fl_size]⟩
 obtain ⟨I, HI⟩ := ex_eq (FL .i64 256 f)
 have Ii : Away ((Tryz.prog.info? 25).map (·.size) = some I.size) := ⟨by rw [← HI.out]; exact sz _⟩
 rw [HR.out, HS.out, HI.out]
 clear hsize sz
 have Hix : Away (∀ (i : Nat), i < 256 → ∀ w1 : World, (Instr.index 25 (.agg I) (.int .i64 (i : Int))).run Tryz.prog w1 = .ok (.int .i64 (f i)) w1) := ⟨fun i hi w1 => by rw [← HI.out]; exact index_poly f i hi w1⟩
 have Hred := Away.mk reduce_any
 have Hcen := Away.mk centre_any
 go_enter Tryz.func84, Tryz.ntmps84
 go_wp2_with fail
 clear hz
 obtain ⟨W1, hW1⟩ : ∃ x, ((w.alloc (.cells I 25)).alloc (.cells z 25)).alloc (.cells z 25) = x := ⟨_, rfl⟩
 obtain ⟨b0, b1, b2, hWs1, hWb1⟩ := three hW1
 obtain ⟨W, hW⟩ : ∃ x, (W1.alloc (.cells z 25)).alloc (.cells z 25) = x := ⟨_, rfl⟩
 obtain ⟨c3, c4, hWs, hWb⟩ := two hW
 rw [hW1, hW]
 rw [hWs1] at c3 c4 hWs
 have B0 : Away (W.heap[w.heap.size]? = some (.cells I 25 (0, 0))) := ⟨(hWb.block _ (by omega)).trans b0⟩
 have B1 : Away (W.heap[w.heap.size + 1]? = some (.cells z 25 (0, 0))) := ⟨(hWb.block _ (by omega)).trans b1⟩
 have B2 : Away (W.heap[w.heap.size + 2]? = some (.cells z 25 (0, 0))) := ⟨(hWb.block _ (by omega)).trans b2⟩
 have B3 : Away (W.heap[w.heap.size + 3]? = some (.cells z 25 (0, 0))) := ⟨c3⟩
 have B4 : Away (W.heap[w.heap.size + 4]? = some (.cells z 25 (0, 0))) := ⟨c4⟩
 have HWs : Away (w.heap.size + 5 ≤ W.heap.size) := ⟨by omega⟩
 have HWB : Away (Below w.heap.size w W) := ⟨hWb1.trans (hWb.mono (by omega))⟩
 clear hW hW1 b0 b1 b2 c3 c4 hWs1 hWs hWb1 hWb
 refine wp_load_row 25 _ rfl w.heap.size rfl 25 I (0, 0) _ B0.out Tryz.underlying25 rfl Ii.out ?_
 go_wp2_with fail
 go_loopw [10] (fun v wr => ∃ i : Nat, i ≤ 256 ∧ v = .int .i64 (i : Int) ∧ Away (Below w.heap.size w wr ∧ wr.heap[w.heap.size + 1]? = some (.cells z 25 (0, 0)) ∧ wr.heap[w.heap.size + 2]? = some (.cells z 25 (0, 0)) ∧
  wr.heap[w.heap.size + 3]? = some (.cells (FL .i64 256 (pt F (fun _ => 0) i)) 25 (0, 0)) ∧ wr.heap[w.heap.size + 4]? = some (.cells (FL .i64 256 (pt G (fun _ => 0) i)) 25 (0, 0)))) (fun v _ => 256 - (intOf v).toNat)
 case atStart => exact ⟨0, Nat.zero_le _, rfl, ⟨HWB.out, B1.out, B2.out, by rw [pt_zero, HZ.out]; exact B3.out, by rw [pt_zero, HZ.out]; exact B4.out⟩⟩
 case round =>
  obtain ⟨i, hi, rfl, A0⟩ := hrel
  by_cases hlt : i < 256
  ·have hiz : (i : Int) < 256 := by omega
   have hx0 := Hix.out i hlt wr
   obtain ⟨x, hx⟩ : ∃ x, f i = x := ⟨_, rfl⟩
   rw [hx] at hx0
   have HV : Away (F i = sh x ∧ G i = sl x % 8380417) := ⟨by rw [HFi.out, HGi.out, hx]; exact ⟨rfl, rfl⟩⟩
   have hb := sl_bound x
   have hs := (split_is x)
   have Hr := Hred.out x
   have Hc := Hcen.out (x % 8380417) 8192
   rw [show ce 8192 (x % 8380417) = sl x from rfl] at Hc
   obtain ⟨v, hv⟩ := ex_eq (sh x)
   have hvd : (x % 8380417 - sl x) / 8192 = v := hv.out
   obtain ⟨l, hl⟩ := ex_eq (sl x)
   rw [hl.out] at Hc hb hs hvd
   rw [hv.out] at hs
   obtain ⟨r, hr⟩ := ex_eq (x % 8380417)
   have hrb : 0 ≤ r ∧ r < 8380417 := by rw [← hr.out]; omega
   rw [hr.out] at Hr Hc hb hvd hs
   have Hl := Hred.out l
   obtain ⟨u, hu⟩ := ex_eq (l % 8380417)
   rw [hu.out] at Hl
   obtain ⟨d, hd⟩ : ∃ d, r - l = d := ⟨_, rfl⟩
   have f1 : IntKind.i64.wrap (r - l) = d := by rw [hd, IntKind.wrap_i64]; omega
   rw [hd] at hvd
   have hd0 : 0 ≤ d := by omega
   have f2 : IntKind.i64.wrap (d.tdiv 8192) = v := by rw [Int.tdiv_eq_ediv_of_nonneg hd0, hvd, IntKind.wrap_i64]; omega
   have HU : Away (upd (pt F (fun _ => 0) i) i v = pt F (fun _ => 0) (i + 1)) := ⟨pt_upd F _ i v (by rw [HV.out.1, hv.out])⟩
   have HU2 : Away (upd (pt G (fun _ => 0) i) i u = pt G (fun _ => 0) (i + 1)) := ⟨pt_upd G _ i u (by rw [HV.out.2, hl.out, hu.out])⟩
   clear hx hb hs hd hd0 hvd hrb hr hv hl hu HV
   go_wp2_with fail
   refine (Hr _).mono ?_
   rintro e wx ⟨rfl, rfl⟩
   go_wp2_with fail
   refine (Hc _).mono ?_
   rintro e wy ⟨rfl, rfl⟩
   go_wp2_with fail
   refine any_begin (by kernel_rfl) ?_
   (focus (refine wpAny_take (i := 1) (v := ?_) rfl (by kernel_rfl) (by kernel_rfl) (by kernel_rfl) (fun _ _ _ h => h) (Or.inl ⟨by rfl, ?_⟩) ?_; rotate_left; focus (intro w; go_simp; first | done | with_reducible rfl); all_goals skip))
   refine any_still [0, 2, 3, 4, 5, 6, 7, 8] 9 [10, 11] rfl (by kernel_rfl) ?_
   simp only [pick, List.filterMap_cons, List.filterMap_nil, List.getElem?_cons_succ, List.getElem?_cons_zero]
   repeat still_step
   still_call (Hl _)
   repeat still_step
   refine wpStill_nil ?_
   have A1 : Away (At (w.heap.size + 3) (FL .i64 256 (pt F (fun _ => 0) i)) 25 wy wy.drew) := ⟨at_drew (At.refl A0.out.2.2.2.1)⟩
   with_reducible refine wpList_put2 A1 rfl _ _ _ rfl rfl ?_
   refine ⟨_, _, _, rfl, rfl, rfl, by rw [fl_size]; exact hlt, ?_⟩
   intro w5 A2
   rw [fl_set, HU.out] at A2
   have A3 : Away (At (w.heap.size + 4) (FL .i64 256 (pt G (fun _ => 0) i)) 25 w5 w5) := ⟨At.refl (A2.out.other (lt_of_row A0.out.2.2.2.2) (by omega) A0.out.2.2.2.2)⟩
   refine wpList_plain rfl (fun K hK => ?_)
   go_simp
   refine hK _ _ ?_
   clear hK K
   with_reducible refine wpList_put2 A3 rfl _ _ _ rfl rfl ?_
   refine ⟨_, _, _, rfl, rfl, rfl, (by rw [fl_size]; exact hlt), ?_⟩
   intro w6 A4
   rw [fl_set, HU2.out] at A4
   have AE : Away (Below w.heap.size w w6 ∧ w6.heap[w.heap.size + 1]? = some (.cells z 25 (0, 0)) ∧ w6.heap[w.heap.size + 2]? = some (.cells z 25 (0, 0)) ∧
    w6.heap[w.heap.size + 3]? = some (.cells (FL .i64 256 (pt F (fun _ => 0) (i + 1))) 25 (0, 0)) ∧ w6.heap[w.heap.size + 4]? = some (.cells (FL .i64 256 (pt G (fun _ => 0) (i + 1))) 25 (0, 0))) := ⟨by
    have s0 := A0.out.1.size
    have s1 := A2.out.size
    have l1 := lt_of_row A0.out.2.1
    have l2 := lt_of_row A0.out.2.2.1
    have l3 := lt_of_row A2.out.row
    exact ⟨(A0.out.1.trans (A2.out.below (by omega) (by omega))).trans (A4.out.below (by omega) (by omega)),
     A4.out.other (by omega) (by omega) (A2.out.other l1 (by omega) A0.out.2.1), A4.out.other (by omega) (by omega) (A2.out.other l2 (by omega) A0.out.2.2.1),
     A4.out.other (by omega) (by omega) A2.out.row, A4.out.row⟩⟩
   clear A0 A1 A2 A3 A4
   go_wp2_with fail
   go_roundw
   case rel => exact ⟨i + 1, by omega, by go_num, AE⟩
   case measure => simp [intOf]; omega
  ·obtain rfl : i = 256 := by omega
   simp only [Int.cast_ofNat_Int]
   rw [fl_all, fl_all, HR.out, HS.out] at A0
   have K0 : Two Tryz.prog wr.drew 25 (w.heap.size + 3) (w.heap.size + 1) R := ⟨⟨_, _, A0.out.2.2.2.1⟩, ⟨_, _, A0.out.2.1, Rz.out⟩, ⟨_, Tryz.underlying25, rfl⟩, Ri.out, Ro.out⟩
   have K1 : Two Tryz.prog wr.drew 25 (w.heap.size + 4) (w.heap.size + 2) S := ⟨⟨_, _, A0.out.2.2.2.2⟩, ⟨_, _, A0.out.2.2.1, Sz.out⟩, ⟨_, Tryz.underlying25, rfl⟩, Si.out, So.out⟩
   have HK := Away.mk (And.intro K0 K1)
   clear K0 K1
   go_wp2_with fail
   refine region_two 25 25 4 5 2 3 29 30 (by kernel_rfl) (by kernel_rfl) ⟨rfl, rfl, rfl⟩ ⟨rfl, rfl, rfl⟩ ⟨rfl, rfl, rfl⟩ ⟨rfl, rfl, rfl⟩ (by decide) ⟨(of_decide_eq_true rfl : 29 < 31), (of_decide_eq_true rfl : 30 < 31)⟩ _ _ _ _ R S rfl rfl rfl rfl HK.out.1 HK.out.2 (by omega) (by omega) ?_
   go_wp2_with fail
   have q0 : (wr.drew.setRow (w.heap.size + 1) R).heap[w.heap.size + 1]? = some (.cells R 25 (0, 0)) := setRow_heap _ _ _ _ _ _ A0.out.2.1
   have q1 : (wr.drew.setRow (w.heap.size + 1) R).heap[w.heap.size + 2]? = some (.cells z 25 (0, 0)) := (setRow_other _ _ _ _ (by omega)).trans A0.out.2.2.1
   refine bodyPost_ret_by (v := .tuple #[.agg R, .agg S]) (results_cells rfl _ _ (w.heap.size + 1) (w.heap.size + 2) R S rfl rfl 25 25 (0, 0) (0, 0) ((setRow_other _ _ _ _ (by omega)).trans q0) (setRow_heap _ _ _ _ _ _ q1) _ _ Tryz.underlying25 rfl Tryz.underlying25 rfl Ri.out Si.out) rfl ?_
   exact ⟨rfl, (A0.out.1.drew.trans (below_setRow _ _ _ (by omega))).trans (below_setRow _ _ _ (by omega))⟩
end rsplit
end Go.Proofs.YtlcafjdehcddcaaGreatDoor
