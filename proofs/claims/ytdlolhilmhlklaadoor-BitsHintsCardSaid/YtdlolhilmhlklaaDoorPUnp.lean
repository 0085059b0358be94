/-
  What package bits' Unpack returns. Conditions: none.
-/
import Derived.Test.YtdlolhilmhlklaaDoorBiD
import Derived.Test.YtdlolhilmhlklaaDoorPLong
import Derived.Test.YtdlolhilmhlklaaDoorPLoad
import Derived.Test.YtdlolhilmhlklaaDoorPSmall
import Derived.Test.YtdlolhilmhlklaaDoorPPack
namespace Go.Proofs.YtdlolhilmhlklaaDoor.punp
open Go Go.RowKit
open Go.Proofs.YtdlolhilmhlklaaDoor.arr Go.Proofs.YtdlolhilmhlklaaDoor.mem Go.Proofs.YtdlolhilmhlklaaDoor.stil Go.Proofs.YtdlolhilmhlklaaDoor.bitm Go.Proofs.YtdlolhilmhlklaaDoor.polys Go.Proofs.YtdlolhilmhlklaaDoor.fldm Go.Proofs.YtdlolhilmhlklaaDoor.rbita Go.Proofs.YtdlolhilmhlklaaDoor.rbitb Go.Proofs.YtdlolhilmhlklaaDoor.rbitc Go.Proofs.YtdlolhilmhlklaaDoor.rbitd Go.Proofs.YtdlolhilmhlklaaDoor.rbite Go.Proofs.YtdlolhilmhlklaaDoor.rbitf
set_option maxRecDepth 100000 in
set_option maxHeartbeats 4000000 in
theorem unpack_bad (s : ByteArray) (most : Int) (w : World) (hm : most < 1 ∨ 8380417 ≤ most ∨ s.size ≠ 32 * lb most.toNat) :
    Calls Tryd.prog 6 #[.string s, .int .i64 most] w fun e w' => e = .returned (.tuple #[.agg (FL .i64 256 fun _ => 0), .int .i64 1]) ∧ Below w.heap.size w w' := by
  obtain ⟨hz, hsize⟩ := zero_of_info infoP
  obtain ⟨z, HZ⟩ := ex_eq (FL .i64 256 fun _ => 0)
  rw [HZ.out] at hz ⊢
  have Hzs : Away (z.size = 256) := ⟨by rw [← HZ.out]; exact fl_size _ _ _⟩
  have Zi : Away ((Tryd.prog.info? 25).map (·.size) = some z.size) := ⟨by rw [Hzs.out]; exact hsize⟩
  have Zo : Away (z.all (·.oneCell') = true) := ⟨by rw [← HZ.out]; exact fl_one _ _ _⟩
  obtain ⟨W, hW⟩ : ∃ x, w.alloc (.cells z 25) = x := ⟨_, rfl⟩
  have HW := Away.mk hW
  have BW : Away (Below w.heap.size w W) := ⟨by rw [← hW]; exact below_alloc _ _⟩
  have hrow : Away (W.heap[w.heap.size]? = some (.cells z 25 (0, 0))) := ⟨by rw [← hW]; exact heap_at _ _ _ rfl⟩
  clear hW hsize
  by_cases h1 : 1 ≤ most ∧ most < 8380417
  · have HM : ∀ w1 : World, Calls Tryd.prog 16 #[.int .i64 most] w1 fun e w' => e = .returned (.bool true) ∧ w' = w1 := fun w1 => by
      have h := psmall.most_any most w1
      rw [decide_eq_true h1] at h
      exact h
    have hl := Away.mk (fun w1 => plong.long_any most (by omega) w1)
    have hl23 := lb_small most (by omega)
    obtain ⟨wd, hwd⟩ : ∃ x, lb most.toNat = x := ⟨_, rfl⟩
    rw [hwd] at hm hl hl23
    have HS := Away.mk (fun w1 => psmall.size_any wd (by omega) w1)
    obtain ⟨n, hn⟩ : ∃ n, 32 * wd = n := ⟨_, rfl⟩
    rw [hn] at hm HS
    have fne : ((s.size : Int) != (n : Int)) = true := by simp only [bne_iff_ne, ne_eq]; omega
    clear hwd hm hn h1
    go_enter Tryd.func6, Tryd.ntmps6
    go_wp2_with (rw [HW.out])
    refine (HM _).mono ?_
    rintro e W ⟨rfl, rfl⟩
    go_wp2_with fail
    refine (hl.out _).mono ?_
    rintro e W ⟨rfl, rfl⟩
    go_wp2_with fail
    refine (HS.out _).mono ?_
    rintro e W ⟨rfl, rfl⟩
    go_wp2_with (first | (rw [HW.out]) | (refine wpList_store_row rfl 25 _ _ rfl w.heap.size z rfl rfl 25 _ hrow.out Zi.out rfl Zo.out ?_))
    refine bodyPost_ret_by (v := .tuple #[.agg z, .int .i64 1]) (rbite.results_cell_tmp rfl _ _ w.heap.size 25 _ (0, 0) _ rfl (setRow_heap _ _ _ _ _ _ hrow.out) Tryd.underlying25 rfl Zi.out _ rfl) rfl ?_
    exact ⟨rfl, BW.out.trans (below_setRow _ _ _ (Nat.le_refl _))⟩
  · have HM : ∀ w1 : World, Calls Tryd.prog 16 #[.int .i64 most] w1 fun e w' => e = .returned (.bool false) ∧ w' = w1 := fun w1 => by
      have h := psmall.most_any most w1
      rw [decide_eq_false h1] at h
      exact h
    clear hm h1
    go_enter Tryd.func6, Tryd.ntmps6
    go_wp2_with (rw [HW.out])
    refine (HM _).mono ?_
    rintro e W ⟨rfl, rfl⟩
    go_wp2_with (first | (rw [HW.out]) | (refine wpList_store_row rfl 25 _ _ rfl w.heap.size z rfl rfl 25 _ hrow.out Zi.out rfl Zo.out ?_))
    refine bodyPost_ret_by (v := .tuple #[.agg z, .int .i64 1]) (rbite.results_cell_tmp rfl _ _ w.heap.size 25 _ (0, 0) _ rfl (setRow_heap _ _ _ _ _ _ hrow.out) Tryd.underlying25 rfl Zi.out _ rfl) rfl ?_
    exact ⟨rfl, BW.out.trans (below_setRow _ _ _ (Nat.le_refl _))⟩
set_option maxRecDepth 100000 in
set_option maxHeartbeats 4000000 in
theorem unpack_any (s : ByteArray) (most : Int) (w : World) (h1 : 1 ≤ most) (h2 : most < 8380417) (hs : s.size = 32 * lb most.toNat) :
    Calls Tryd.prog 6 #[.string s, .int .i64 most] w fun e w' => e = .returned (if inb (up s (lb most.toNat)) most then .tuple #[.agg (FL .i64 256 (up s (lb most.toNat))), .int .i64 0] else .tuple #[.agg (FL .i64 256 fun _ => 0), .int .i64 3]) ∧ Below w.heap.size w w' := by
  obtain ⟨hz, hsize⟩ := zero_of_info infoP
  have HM : ∀ w1 : World, Calls Tryd.prog 16 #[.int .i64 most] w1 fun e w' => e = .returned (.bool true) ∧ w' = w1 := fun w1 => by
    have h := psmall.most_any most w1
    rw [decide_eq_true ⟨h1, h2⟩] at h
    exact h
  have hl := Away.mk (fun w1 => plong.long_any most (by omega) w1)
  have hl1 := ppack.lb_pos most h1 h2
  have hl23 := lb_small most (by omega)
  obtain ⟨wd, hwd⟩ : ∃ x, lb most.toNat = x := ⟨_, rfl⟩
  rw [hwd] at hs hl hl1 hl23 ⊢
  have HN := Away.mk (fun w1 => pload.load_any s wd w1 hl1 hl23 hs)
  have HS := Away.mk (fun w1 => psmall.size_any wd (by omega) w1)
  obtain ⟨f, Hf⟩ := ex_eq (up s wd)
  rw [Hf.out] at HN
  rw [Hf.out]
  have Hpos : Away (∀ i, 0 ≤ f i) := ⟨fun i => by rw [← Hf.out]; exact Int.natCast_nonneg _⟩
  have Hidx : Away (∀ i : Nat, i < 256 → ∀ w1, (Instr.index 25 (.agg (FL .i64 256 f)) (.int .i64 (i : Int))).run Tryd.prog w1 = .ok (.int .i64 (f i)) w1) := ⟨fun i hi w1 => index_row (P := Tryd.prog) Tryd.underlying25 (by kernel_rfl) (by kernel_rfl) (by kernel_rfl) _ _ i hi (fl_get .i64 256 f i hi) w1⟩
  obtain ⟨z, HZ⟩ := ex_eq (FL .i64 256 fun _ => 0)
  rw [HZ.out] at hz ⊢
  have Hzs : Away (z.size = 256) := ⟨by rw [← HZ.out]; exact fl_size _ _ _⟩
  have Zi : Away ((Tryd.prog.info? 25).map (·.size) = some z.size) := ⟨by rw [Hzs.out]; exact hsize⟩
  have Zo : Away (z.all (·.oneCell') = true) := ⟨by rw [← HZ.out]; exact fl_one _ _ _⟩
  have Gs : Away ((FL .i64 256 f).size = 256) := ⟨fl_size _ _ _⟩
  have Go : Away ((FL .i64 256 f).all (·.oneCell') = true) := ⟨fl_one _ _ _⟩
  obtain ⟨G, HG⟩ := ex_eq (FL .i64 256 f)
  rw [HG.out] at HN Hidx Gs Go ⊢
  have Gi : Away ((Tryd.prog.info? 25).map (·.size) = some G.size) := ⟨by rw [Gs.out]; exact hsize⟩
  obtain ⟨V, HV⟩ := ex_eq (if inb f most then Value.tuple #[.agg G, .int .i64 0] else .tuple #[.agg z, .int .i64 3])
  rw [HV.out]
  obtain ⟨W, hW⟩ : ∃ x, w.alloc (.cells z 25) = x := ⟨_, rfl⟩
  have HW := Away.mk hW
  have BW : Away (Below w.heap.size w W) := ⟨by rw [← hW]; exact below_alloc _ _⟩
  have hrow : Away (W.heap[w.heap.size]? = some (.cells z 25 (0, 0))) := ⟨by rw [← hW]; exact heap_at _ _ _ rfl⟩
  have hWs : Away (W.heap.size = w.heap.size + 1) := ⟨by rw [← hW, size_alloc]⟩
  obtain ⟨n, hn⟩ : ∃ n, 32 * wd = n := ⟨_, rfl⟩
  rw [hn] at HS
  have fne : ((s.size : Int) != (n : Int)) = false := by rw [show (s.size : Int) = (n : Int) by omega]; simp
  clear hW hsize hwd hs hn Hf HZ HG h1 h2 hl1
  go_enter Tryd.func6, Tryd.ntmps6
  go_wp2_with (rw [HW.out])
  refine (HM _).mono ?_
  rintro e W ⟨rfl, rfl⟩
  go_wp2_with fail
  refine (hl.out _).mono ?_
  rintro e W ⟨rfl, rfl⟩
  go_wp2_with fail
  refine (HS.out _).mono ?_
  rintro e W ⟨rfl, rfl⟩
  go_wp2_with fail
  refine (hl.out _).mono ?_
  rintro e W ⟨rfl, rfl⟩
  go_wp2_with fail
  refine (HN.out _).mono ?_
  rintro e w2 ⟨rfl, hb2⟩
  have hrow2 : Away (w2.heap[w.heap.size]? = some (.cells z 25 (0, 0))) := ⟨(hb2.block w.heap.size (by rw [hWs.out]; omega)).trans hrow.out⟩
  have B2 : Away (Below w.heap.size w w2) := ⟨BW.out.trans (hb2.mono (by rw [hWs.out]; omega))⟩
  have hlt2 : w.heap.size < w2.heap.size := by have := hb2.size; rw [hWs.out] at this; omega
  obtain ⟨W3, hW3⟩ : ∃ x, w2.alloc (.cells G 25) = x := ⟨_, rfl⟩
  have HW3 := Away.mk hW3
  have r3 : Away (W3.heap[w2.heap.size]? = some (.cells G 25 (0, 0))) := ⟨by rw [← hW3]; exact heap_at _ _ _ rfl⟩
  have r0 : Away (W3.heap[w.heap.size]? = some (.cells z 25 (0, 0))) := ⟨by rw [← hW3, heap_past _ _ _ hlt2]; exact hrow2.out⟩
  have B3 : Away (Below w.heap.size w W3) := ⟨by rw [← hW3]; exact B2.out.alloc (by omega) _⟩
  clear hb2 hW3 hlt2
  go_wp2_with (first
    | ((with_reducible refine wpList_store_new rfl 25 _ _ rfl G ?hx ?hy ?hi ?ho ?h1 ?hn ?_); (case hx => rfl); (case hy => rfl); (case hi => exact Gi.out); (case ho => rw [Hzs.out, Gs.out]); (case h1 => exact Go.out); (case hn => rfl); rw [HW3.out])
    | (refine wpList_load_row rfl 25 _ rfl w2.heap.size rfl 25 G (0, 0) _ r3.out Tryd.underlying25 rfl Gi.out ?_))
  go_loopw [26] (fun c wr => ∃ j : Nat, j ≤ 256 ∧ c = .int .i64 (j : Int) ∧ Away (∀ i, i < j → f i ≤ most) ∧ W3 = wr) (fun c _ => 256 - (intOf c).toNat)
  case atStart => exact ⟨0, Nat.zero_le _, rfl, ⟨fun i hi => by omega⟩, rfl⟩
  case round =>
    obtain ⟨j, hj, rfl, Hin, rfl⟩ := hrel
    by_cases hlt : j < 256
    · have hjz : (j : Int) < 256 := by omega
      have hidx := Hidx.out j hlt
      obtain ⟨x, hx⟩ : ∃ x, f j = x := ⟨_, rfl⟩
      rw [hx] at hidx
      by_cases hbad : most < x
      · have hV : Away (V = .tuple #[.agg z, .int .i64 3]) := ⟨by rw [← HV.out, if_neg]; intro hall; have := hall j hlt; rw [hx] at this; omega⟩
        clear hx
        go_wp2_with (refine wpList_store_row rfl 25 _ _ rfl w.heap.size z rfl rfl 25 _ r0.out Zi.out rfl Zo.out ?_)
        refine bodyPost_ret_by (v := .tuple #[.agg z, .int .i64 3]) (rbite.results_cell_tmp rfl _ _ w.heap.size 25 _ (0, 0) _ rfl (setRow_heap _ _ _ _ _ _ r0.out) Tryd.underlying25 rfl Zi.out _ rfl) rfl ?_
        exact ⟨by rw [hV.out], B3.out.trans (below_setRow _ _ _ (Nat.le_refl _))⟩
      · have Hin2 : Away (∀ i, i < j + 1 → f i ≤ most) := ⟨fun i hi => by
          by_cases e : i = j
          · subst e; rw [hx]; omega
          · exact Hin.out i (by omega)⟩
        clear hx
        go_wp2_with fail
        go_roundw
        case rel => exact ⟨j + 1, by omega, by go_num, Hin2, trivial⟩
        case measure => simp [intOf]; omega
    · obtain rfl : j = 256 := by omega
      simp only [Int.cast_ofNat_Int]
      have hV : Away (V = .tuple #[.agg G, .int .i64 0]) := ⟨by rw [← HV.out, if_pos]; exact fun i hi => ⟨Hpos.out i, Hin.out i hi⟩⟩
      clear hj hlt
      go_wp2_with (first
        | (refine wpList_load_row rfl 25 _ rfl w2.heap.size rfl 25 G (0, 0) _ r3.out Tryd.underlying25 rfl Gi.out ?_)
        | (refine wpList_store_row rfl 25 _ _ rfl w.heap.size G rfl rfl 25 _ r0.out Gi.out (by rw [Hzs.out, Gs.out]) Go.out ?_))
      refine bodyPost_ret_by (v := .tuple #[.agg G, .int .i64 0]) (rbite.results_cell_tmp rfl _ _ w.heap.size 25 _ (0, 0) _ rfl (setRow_heap _ _ _ _ _ _ r0.out) Tryd.underlying25 rfl Gi.out _ rfl) rfl ?_
      exact ⟨by rw [hV.out], B3.out.trans (below_setRow _ _ _ (Nat.le_refl _))⟩
end Go.Proofs.YtdlolhilmhlklaaDoor.punp
