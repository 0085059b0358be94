/-
  What package bits' Unsigned returns. Conditions: none.
-/
import Derived.Test.YtdlolhilmhlklaaDoorBiD
import Derived.Test.YtdlolhilmhlklaaDoorFl1
import Derived.Test.YtdlolhilmhlklaaDoorPSmall
import Derived.Test.YtdlolhilmhlklaaDoorPUnp
namespace Go.Proofs.YtdlolhilmhlklaaDoor.puns
open Go Go.RowKit
open Go.Proofs.YtdlolhilmhlklaaDoor.arr Go.Proofs.YtdlolhilmhlklaaDoor.mem Go.Proofs.YtdlolhilmhlklaaDoor.stil Go.Proofs.YtdlolhilmhlklaaDoor.bitm Go.Proofs.YtdlolhilmhlklaaDoor.polys Go.Proofs.YtdlolhilmhlklaaDoor.fldm Go.Proofs.YtdlolhilmhlklaaDoor.rbita Go.Proofs.YtdlolhilmhlklaaDoor.rbitb Go.Proofs.YtdlolhilmhlklaaDoor.rbitc Go.Proofs.YtdlolhilmhlklaaDoor.rbitd Go.Proofs.YtdlolhilmhlklaaDoor.rbite Go.Proofs.YtdlolhilmhlklaaDoor.rbitf Go.Proofs.YtdlolhilmhlklaaDoor.fld1 Go.Proofs.YtdlolhilmhlklaaDoor.rbitg
set_option maxRecDepth 100000 in
set_option maxHeartbeats 2000000 in
theorem unsigned_bad (s : ByteArray) (low high : Int) (w : World) (hm : ¬ (0 ≤ low ∧ low < 4190208 ∧ 1 ≤ high ∧ high < 4190208)) :
    Calls Tryd.prog 8 #[.string s, .int .i64 low, .int .i64 high] w fun e w' => e = .returned (.tuple #[.agg (FL .i64 256 fun _ => 0), .int .i64 1]) ∧ Below w.heap.size w w' := by
  obtain ⟨hz, hsize⟩ := zero_of_info infoP
  obtain ⟨z, HZ⟩ := ex_eq (FL .i64 256 fun _ => 0)
  rw [HZ.out] at hz ⊢
  have Hzs : Away (z.size = 256) := ⟨by rw [← HZ.out]; exact fl_size _ _ _⟩
  have Zi : Away ((Tryd.prog.info? 25).map (·.size) = some z.size) := ⟨by rw [Hzs.out]; exact hsize⟩
  have Zo : Away (z.all (·.oneCell') = true) := ⟨by rw [← HZ.out]; exact fl_one _ _ _⟩
  obtain ⟨W, hW⟩ : ∃ x, w.alloc (.cells z 25) = x := ⟨_, rfl⟩
  have HW := Away.mk hW
  have BW : Away (Below w.heap.size w W) := ⟨by rw [← hW]; exact below_alloc _ _⟩
  have hrow : Away (W.heap[w.heap.size]? = some (.cells z 25 (0, 0))) := ⟨by rw [← hW]; exact heap_at _ _ _ rfl⟩
  clear hW hsize
  have HM : ∀ w1 : World, Calls Tryd.prog 22 #[.int .i64 low, .int .i64 high] w1 fun e w' => e = .returned (.bool false) ∧ w' = w1 := fun w1 => by
    have h := psmall.ends_any low high w1
    rw [decide_eq_false hm] at h
    exact h
  clear hm
  go_enter Tryd.func8, Tryd.ntmps8
  go_wp2_with (rw [HW.out])
  refine (HM _).mono ?_
  rintro e W ⟨rfl, rfl⟩
  go_wp2_with (refine wpList_store_row rfl 25 _ _ rfl w.heap.size z rfl rfl 25 _ hrow.out Zi.out rfl Zo.out ?_)
  refine bodyPost_ret_by (v := .tuple #[.agg z, .int .i64 1]) (rbite.results_cell_tmp rfl _ _ w.heap.size 25 _ (0, 0) _ rfl (setRow_heap _ _ _ _ _ _ hrow.out) Tryd.underlying25 rfl Zi.out _ rfl) rfl ?_
  exact ⟨rfl, BW.out.trans (below_setRow _ _ _ (Nat.le_refl _))⟩
set_option maxRecDepth 100000 in
set_option maxHeartbeats 4000000 in
/-- the bytes are not those of numbers within the bounds: the errors of Unpack -/
theorem unsigned_err (s : ByteArray) (low high : Int) (w : World) (c : Int) (h1 : 0 ≤ low) (h2 : 1 ≤ high) (h3 : low < 4190208) (h4 : high < 4190208) (hc : c ≠ 0)
    (hu : ∀ w1 : World, Calls Tryd.prog 6 #[.string s, .int .i64 (low + high)] w1 fun e w' => e = .returned (.tuple #[.agg (FL .i64 256 fun _ => 0), .int .i64 c]) ∧ Below w1.heap.size w1 w') :
    Calls Tryd.prog 8 #[.string s, .int .i64 low, .int .i64 high] w fun e w' => e = .returned (.tuple #[.agg (FL .i64 256 fun _ => 0), .int .i64 c]) ∧ Below w.heap.size w w' := by
  have HU := Away.mk hu
  clear hu
  obtain ⟨hz, hsize⟩ := zero_of_info infoP
  obtain ⟨z, HZ⟩ := ex_eq (FL .i64 256 fun _ => 0)
  rw [HZ.out] at hz HU ⊢
  have Hzs : Away (z.size = 256) := ⟨by rw [← HZ.out]; exact fl_size _ _ _⟩
  have Zi : Away ((Tryd.prog.info? 25).map (·.size) = some z.size) := ⟨by rw [Hzs.out]; exact hsize⟩
  have Zo : Away (z.all (·.oneCell') = true) := ⟨by rw [← HZ.out]; exact fl_one _ _ _⟩
  obtain ⟨W, hW⟩ : ∃ x, w.alloc (.cells z 25) = x := ⟨_, rfl⟩
  have HW := Away.mk hW
  have BW : Away (Below w.heap.size w W) := ⟨by rw [← hW]; exact below_alloc _ _⟩
  have hrow : Away (W.heap[w.heap.size]? = some (.cells z 25 (0, 0))) := ⟨by rw [← hW]; exact heap_at _ _ _ rfl⟩
  have hWs : Away (W.heap.size = w.heap.size + 1) := ⟨by rw [← hW, size_alloc]⟩
  have HM : ∀ w1 : World, Calls Tryd.prog 22 #[.int .i64 low, .int .i64 high] w1 fun e w' => e = .returned (.bool true) ∧ w' = w1 := fun w1 => by
    have h := psmall.ends_any low high w1
    rw [decide_eq_true ⟨h1, h3, h2, h4⟩] at h
    exact h
  have fl2 : IntKind.i64.wrap (low + high) = low + high := by rw [IntKind.wrap_i64]; omega
  have fc : (c != 0) = true := by simpa using hc
  clear hW hsize HZ h1 h2 h3 h4 hc
  go_enter Tryd.func8, Tryd.ntmps8
  go_wp2_with (rw [HW.out])
  refine (HM _).mono ?_
  rintro e W ⟨rfl, rfl⟩
  go_wp2_with fail
  refine (HU.out _).mono ?_
  rintro e w2 ⟨rfl, hb2⟩
  have hrow2 : Away (w2.heap[w.heap.size]? = some (.cells z 25 (0, 0))) := ⟨(hb2.block w.heap.size (by rw [hWs.out]; omega)).trans hrow.out⟩
  have B2 : Away (Below w.heap.size w w2) := ⟨BW.out.trans (hb2.mono (by rw [hWs.out]; omega))⟩
  have hlt2 : w.heap.size < w2.heap.size := by have := hb2.size; rw [hWs.out] at this; omega
  obtain ⟨W3, hW3⟩ : ∃ x, w2.alloc (.cells z 25) = x := ⟨_, rfl⟩
  have HW3 := Away.mk hW3
  have r3 : Away (W3.heap[w2.heap.size]? = some (.cells z 25 (0, 0))) := ⟨by rw [← hW3]; exact heap_at _ _ _ rfl⟩
  have r0 : Away (W3.heap[w.heap.size]? = some (.cells z 25 (0, 0))) := ⟨by rw [← hW3, heap_past _ _ _ hlt2]; exact hrow2.out⟩
  have B3 : Away (Below w.heap.size w W3) := ⟨by rw [← hW3]; exact B2.out.alloc (by omega) _⟩
  clear hb2 hW3 hlt2
  go_wp2_with (first
    | ((with_reducible refine wpList_store_new rfl 25 _ _ rfl z ?hx ?hy ?hi ?ho ?h1 ?hn ?_); (case hx => rfl); (case hy => rfl); (case hi => exact Zi.out); (case ho => rfl); (case h1 => exact Zo.out); (case hn => rfl); rw [HW3.out])
    | (refine wpList_load_row rfl 25 _ rfl w2.heap.size rfl 25 z (0, 0) _ r3.out Tryd.underlying25 rfl Zi.out ?_)
    | (refine wpList_store_row rfl 25 _ _ rfl w.heap.size z rfl rfl 25 _ r0.out Zi.out rfl Zo.out ?_))
  refine bodyPost_ret_by (v := .tuple #[.agg z, .int .i64 c]) (rbite.results_cell_tmp rfl _ _ w.heap.size 25 _ (0, 0) _ rfl (setRow_heap _ _ _ _ _ _ r0.out) Tryd.underlying25 rfl Zi.out _ rfl) rfl ?_
  exact ⟨rfl, B3.out.trans (below_setRow _ _ _ (Nat.le_refl _))⟩
set_option maxRecDepth 100000 in
set_option maxHeartbeats 4000000 in
theorem unsigned_good (s : ByteArray) (low high : Int) (w : World) (f : Nat → Int) (h1 : 0 ≤ low) (h2 : 1 ≤ high) (h3 : low < 4190208) (h4 : high < 4190208) (hf : ∀ i, i < 256 → 0 ≤ f i ∧ f i ≤ low + high)
    (hu : ∀ w1 : World, Calls Tryd.prog 6 #[.string s, .int .i64 (low + high)] w1 fun e w' => e = .returned (.tuple #[.agg (FL .i64 256 f), .int .i64 0]) ∧ Below w1.heap.size w1 w') :
    Calls Tryd.prog 8 #[.string s, .int .i64 low, .int .i64 high] w fun e w' => e = .returned (.tuple #[.agg (FL .i64 256 (un f high)), .int .i64 0]) ∧ Below w.heap.size w w' := by
  have HU := Away.mk hu
  have Hf := Away.mk hf
  clear hu hf
  have Hidx : Away (∀ i : Nat, i < 256 → ∀ w1, (Instr.index 25 (.agg (FL .i64 256 f)) (.int .i64 (i : Int))).run Tryd.prog w1 = .ok (.int .i64 (f i)) w1) := ⟨fun i hi w1 => index_row (P := Tryd.prog) Tryd.underlying25 (by kernel_rfl) (by kernel_rfl) (by kernel_rfl) _ _ i hi (fl_get .i64 256 f i hi) w1⟩
  obtain ⟨hz, hsize⟩ := zero_of_info infoP
  obtain ⟨z, HZ⟩ := ex_eq (FL .i64 256 fun _ => 0)
  rw [HZ.out] at hz
  have Hzs : Away (z.size = 256) := ⟨by rw [← HZ.out]; exact fl_size _ _ _⟩
  have Fs : Away ((FL .i64 256 f).size = 256) := ⟨fl_size _ _ _⟩
  have Fo : Away ((FL .i64 256 f).all (·.oneCell') = true) := ⟨fl_one _ _ _⟩
  have Hpz : Away (FL .i64 256 (pt (un f high) f 0) = FL .i64 256 f) := ⟨by rw [pt_zero]⟩
  obtain ⟨F, HF⟩ := ex_eq (FL .i64 256 f)
  rw [HF.out] at HU Hidx Fs Fo Hpz
  have Fi : Away ((Tryd.prog.info? 25).map (·.size) = some F.size) := ⟨by rw [Fs.out]; exact hsize⟩
  have Gs : Away ((FL .i64 256 (un f high)).size = 256) := ⟨fl_size _ _ _⟩
  have Go : Away ((FL .i64 256 (un f high)).all (·.oneCell') = true) := ⟨fl_one _ _ _⟩
  have Hall : Away (FL .i64 256 (pt (un f high) f 256) = FL .i64 256 (un f high)) := ⟨fl_all _ _ _ _⟩
  obtain ⟨G, HG⟩ := ex_eq (FL .i64 256 (un f high))
  rw [HG.out] at Gs Go Hall ⊢
  have Gi : Away ((Tryd.prog.info? 25).map (·.size) = some G.size) := ⟨by rw [Gs.out]; exact hsize⟩
  obtain ⟨W, hW⟩ : ∃ x, w.alloc (.cells z 25) = x := ⟨_, rfl⟩
  have HW := Away.mk hW
  have BW : Away (Below w.heap.size w W) := ⟨by rw [← hW]; exact below_alloc _ _⟩
  have hrow : Away (W.heap[w.heap.size]? = some (.cells z 25 (0, 0))) := ⟨by rw [← hW]; exact heap_at _ _ _ rfl⟩
  have hWs : Away (W.heap.size = w.heap.size + 1) := ⟨by rw [← hW, size_alloc]⟩
  have HM : ∀ w1 : World, Calls Tryd.prog 22 #[.int .i64 low, .int .i64 high] w1 fun e w' => e = .returned (.bool true) ∧ w' = w1 := fun w1 => by
    have h := psmall.ends_any low high w1
    rw [decide_eq_true ⟨h1, h3, h2, h4⟩] at h
    exact h
  have fl2 : IntKind.i64.wrap (low + high) = low + high := by rw [IntKind.wrap_i64]; omega
  have HL := Away.mk (And.intro h1 (And.intro h2 (And.intro h3 h4)))
  clear hW hsize HZ HG HF h1 h2 h3 h4
  go_enter Tryd.func8, Tryd.ntmps8
  go_wp2_with (rw [HW.out])
  refine (HM _).mono ?_
  rintro e W ⟨rfl, rfl⟩
  go_wp2_with fail
  refine (HU.out _).mono ?_
  rintro e w2 ⟨rfl, hb2⟩
  have hrow2 : Away (w2.heap[w.heap.size]? = some (.cells z 25 (0, 0))) := ⟨(hb2.block w.heap.size (by rw [hWs.out]; omega)).trans hrow.out⟩
  have B2 : Away (Below w.heap.size w w2) := ⟨BW.out.trans (hb2.mono (by rw [hWs.out]; omega))⟩
  have hlt2 : w.heap.size < w2.heap.size := by have := hb2.size; rw [hWs.out] at this; omega
  obtain ⟨W3, hW3⟩ : ∃ x, w2.alloc (.cells F 25) = x := ⟨_, rfl⟩
  have HW3 := Away.mk hW3
  have r3 : Away (W3.heap[w2.heap.size]? = some (.cells F 25 (0, 0))) := ⟨by rw [← hW3]; exact heap_at _ _ _ rfl⟩
  have r0 : Away (W3.heap[w.heap.size]? = some (.cells z 25 (0, 0))) := ⟨by rw [← hW3, heap_past _ _ _ hlt2]; exact hrow2.out⟩
  have B3 : Away (Below w.heap.size w W3) := ⟨by rw [← hW3]; exact B2.out.alloc (by omega) _⟩
  have A0 : Away (At w2.heap.size (FL .i64 256 (pt (un f high) f 0)) 25 W3 W3) := ⟨by rw [Hpz.out]; exact At.refl r3.out⟩
  have Hlt2 := Away.mk hlt2
  clear hb2 hW3 hlt2
  go_wp2_with (first
    | ((with_reducible refine wpList_store_new rfl 25 _ _ rfl F ?hx ?hy ?hi ?ho ?h1 ?hn ?_); (case hx => rfl); (case hy => rfl); (case hi => exact Fi.out); (case ho => rw [Hzs.out, Fs.out]); (case h1 => exact Fo.out); (case hn => rfl); rw [HW3.out])
    | (refine wpList_load_row rfl 25 _ rfl w2.heap.size rfl 25 F (0, 0) _ r3.out Tryd.underlying25 rfl Fi.out ?_))
  go_loopw [30] (fun c wr => ∃ j : Nat, j ≤ 256 ∧ c = .int .i64 (j : Int) ∧ Away (At w2.heap.size (FL .i64 256 (pt (un f high) f j)) 25 W3 wr)) (fun c _ => 256 - (intOf c).toNat)
  case atStart => exact ⟨0, Nat.zero_le _, rfl, A0⟩
  case round =>
    clear A0
    obtain ⟨j, hj, rfl, A0⟩ := hrel
    by_cases hlt : j < 256
    · have hjz : (j : Int) < 256 := by omega
      have hidx := Hidx.out j hlt
      have hfj := Hf.out j hlt
      obtain ⟨x, hx⟩ : ∃ x, f j = x := ⟨_, rfl⟩
      rw [hx] at hidx hfj
      have fs : IntKind.i64.wrap (high - x) = high - x := by rw [IntKind.wrap_i64]; have := HL.out; omega
      have hun : Away ((high - x) % 8380417 = un f high j) := ⟨by unfold un; rw [hx]⟩
      have Hre := Away.mk (fun w1 => reduce_any (high - x) w1)
      obtain ⟨y, hy⟩ : ∃ y, (high - x) % 8380417 = y := ⟨_, rfl⟩
      rw [hy] at hun Hre
      clear hx hy hfj
      go_wp2_with fail
      refine (Hre.out _).mono ?_
      rintro e w5 ⟨rfl, rfl⟩
      clear hidx
      go_wp2_with ((with_reducible refine wpList_put2 A0 rfl _ _ _ rfl rfl ?_); refine ⟨_, _, _, rfl, rfl, rfl, (by rw [fl_size]; exact hlt), ?_⟩; intro wn HR; rw [fl_set, pt_upd _ _ _ _ hun.out] at HR)
      go_roundw
      case rel => exact ⟨j + 1, by omega, by go_num, HR⟩
      case measure => simp [intOf]; omega
    · obtain rfl : j = 256 := by omega
      simp only [Int.cast_ofNat_Int]
      rw [Hall.out] at A0
      have rg := Away.mk A0.out.row
      have rz : Away (wr.heap[w.heap.size]? = some (.cells z 25 (0, 0))) := ⟨A0.out.other (Array.getElem?_eq_some_iff.1 r0.out).1 (by have := Hlt2.out; omega) r0.out⟩
      have BE : Away (Below w.heap.size w wr) := ⟨B3.out.trans (A0.out.below (by exact B3.out.size) (by have := Hlt2.out; omega))⟩
      clear A0 hj hlt
      go_wp2_with (first
        | (refine wpList_load_row rfl 25 _ rfl w2.heap.size rfl 25 G (0, 0) _ rg.out Tryd.underlying25 rfl Gi.out ?_)
        | (refine wpList_store_row rfl 25 _ _ rfl w.heap.size G rfl rfl 25 _ rz.out Gi.out (by rw [Hzs.out, Gs.out]) Go.out ?_))
      refine bodyPost_ret_by (v := .tuple #[.agg G, .int .i64 0]) (rbite.results_cell_tmp rfl _ _ w.heap.size 25 _ (0, 0) _ rfl (setRow_heap _ _ _ _ _ _ rz.out) Tryd.underlying25 rfl Gi.out _ rfl) rfl ?_
      exact ⟨rfl, BE.out.trans (below_setRow _ _ _ (Nat.le_refl _))⟩
end Go.Proofs.YtdlolhilmhlklaaDoor.puns
