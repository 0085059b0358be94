/-
  What the document's own numbers of layer 10 returns: 256 numbers of a fixed width read bit by bit. Conditions: the string has the bytes. What the document's own Unpack of layer 10 returns. Conditions: none. What the document's own Unsigned of layer 10 returns. Conditions: none.
-/
import Derived.Test.YtlcafjdehcddcaaGreatDoorPuA
import Derived.Test.YtlcafjdehcddcaaGreatDoorRBa
import Derived.Test.YtlcafjdehcddcaaGreatDoorRFr
namespace Go.Proofs.YtlcafjdehcddcaaGreatDoor
namespace rbitc
open Go Go.RowKit
open arr mem stil bitm polys rbita rbitb
set_option maxRecDepth 100000 in
set_option maxHeartbeats 4000000 in
theorem numbers_any (s : ByteArray) (wd : Nat) (w : World) (hw : wd ≤ 23) (hs : 32 * wd ≤ s.size) :
 Calls Tryz.prog 105 #[.string s, .int .i64 (wd : Int)] w fun e w' => e = .returned (.agg (FL .i64 256 fun i => ((bt (pk 8 (bys s)) wd i wd : Nat) : Int))) ∧ Below w.heap.size w w' := by
 obtain ⟨hz, hsize⟩ := zero_of_info infoP
 obtain ⟨z, HZ⟩ := ex_eq (FL .i64 256 fun _ => 0)
 rw [HZ.out] at hz
 have Hzs : Away (z.size = 256) := ⟨by rw [← HZ.out]; exact fl_size _ _ _⟩
 obtain ⟨N, HN⟩ := ex_eq (pk 8 (bys s))
 rw [HN.out]
 obtain ⟨R, HR⟩ := ex_eq (FL .i64 256 fun i => ((bt N wd i wd : Nat) : Int))
 have Ri : Away ((Tryz.prog.info? 25).map (·.size) = some R.size) := ⟨by rw [← HR.out, fl_size]; exact hsize⟩
 have Ro : Away (R.all (·.oneCell') = true) := ⟨by rw [← HR.out]; exact fl_one _ _ _⟩
 have Rz : Away (z.size = R.size) := ⟨by rw [Hzs.out, ← HR.out, fl_size]⟩
 rw [HR.out]
 obtain ⟨W, hW⟩ : ∃ x, (w.alloc (.cells z 25)).alloc (.cells z 25) = x := ⟨_, rfl⟩
 have HW := Away.mk hW
 have hWs : W.heap.size = w.heap.size + 2 := by rw [← hW, size_alloc, size_alloc]
 have BW : Away (Below w.heap.size w W) := ⟨by rw [← hW]; exact ((Below.refl _ _).alloc (Nat.le_refl _) _).alloc (by rw [size_alloc]; omega) _⟩
 have R0 : Away (W.heap[w.heap.size]? = some (.cells z 25 (0, 0))) := ⟨by rw [← hW, heap_past _ _ _ (by rw [size_alloc]; omega)]; exact heap_at _ _ _ rfl⟩
 have R1 : Away (W.heap[w.heap.size + 1]? = some (.cells (FL .i64 256 (pt (fun i => ((bt N wd i wd : Nat) : Int)) (fun _ => 0) 0)) 25 (0, 0))) := ⟨by rw [← hW, pt_zero, HZ.out]; exact heap_at _ _ _ (by rw [size_alloc])⟩
 clear hW hsize
 go_enter Tryz.func105, Tryz.ntmps105
 go_wp2_with (rw [HW.out])
 clear hz
 go_loopw [9] (fun v wr => ∃ i : Nat, i ≤ 256 ∧ v = .int .i64 (i : Int) ∧ Away (At (w.heap.size + 1) (FL .i64 256 (pt (fun i => ((bt N wd i wd : Nat) : Int)) (fun _ => 0) i)) 25 W wr)) (fun v _ => 256 - (intOf v).toNat)
 case atStart => exact ⟨0, Nat.zero_le _, rfl, ⟨At.refl R1.out⟩⟩
 case round =>
  obtain ⟨i, hi, rfl, A0⟩ := hrel
  by_cases hlt : i < 256
  ·have hiz : (i : Int) < 256 := by omega
   have hiw : wd * i + wd ≤ 8 * s.size := by
    have h1 : wd * (i + 1) ≤ wd * 256 := Nat.mul_le_mul_left _ hlt
    rw [Nat.mul_succ] at h1
    omega
   have hiw3 : wd * i ≤ 23 * 256 := Nat.mul_le_mul hw (by omega)
   obtain ⟨iw, hiw2⟩ : ∃ y, wd * i = y := ⟨_, rfl⟩
   have fi : (i : Int) * (wd : Int) = (iw : Int) := by rw [← hiw2, Int.natCast_mul, Int.mul_comm]
   have fiw : IntKind.i64.wrap ((i : Int) * (wd : Int)) = (iw : Int) := by rw [fi, IntKind.wrap_i64]; omega
   have Hiw := Away.mk hiw2
   rw [hiw2] at hiw hiw3
   have A00 : Away (At (w.heap.size + 1) (FL .i64 256 (upd (pt (fun i => ((bt N wd i wd : Nat) : Int)) (fun _ => 0) i) i ((bt N wd i 0 : Nat) : Int))) 25 W wr) := ⟨by
    rw [fl_congr .i64 256 (h' := pt (fun i => ((bt N wd i wd : Nat) : Int)) (fun _ => 0) i) (fun j _ => by
     unfold upd pt
     by_cases e : j = i
     ·rw [if_pos e, if_neg (by omega)]; unfold bt; rw [Nat.pow_zero, Nat.mod_one]; rfl
     ·rw [if_neg e])]
    exact A0.out⟩
   clear hiw2 A0
   go_wp2_with fail
   go_loopw [13] (fun v wr => ∃ k : Nat, k ≤ wd ∧ v = .int .i64 (k : Int) ∧ Away (At (w.heap.size + 1) (FL .i64 256 (upd (pt (fun i => ((bt N wd i wd : Nat) : Int)) (fun _ => 0) i) i ((bt N wd i k : Nat) : Int))) 25 W wr)) (fun v _ => wd - (intOf v).toNat)
   case atStart => exact ⟨0, Nat.zero_le _, rfl, A00⟩
   case round =>
    clear A00
    obtain ⟨k, hk, rfl, A0⟩ := hrel
    by_cases hklt : k < wd
    ·have hkz : (k : Int) < (wd : Int) := by omega
     obtain ⟨m, hm⟩ : ∃ m, iw + k = m := ⟨_, rfl⟩
     obtain ⟨j, hj⟩ : ∃ j, m / 8 = j := ⟨_, rfl⟩
     obtain ⟨r, hr⟩ : ∃ r, m % 8 = r := ⟨_, rfl⟩
     have hjs : j < s.size := by omega
     obtain ⟨β, hβ⟩ : ∃ β, (bys s).getD j 0 = β := ⟨_, rfl⟩
     have hβ8 : β < 256 := by
      rw [← hβ, List.getD_eq_getElem?_getD, List.getElem?_eq_getElem (by rw [bys_length]; exact hjs)]
      exact bys_lt s _ (List.getElem_mem _)
     have hidx := byte_of s j β hjs hβ
     obtain ⟨y, hy⟩ : ∃ y, β / 2 ^ r = y := ⟨_, rfl⟩
     have hyx : y ≤ β := by rw [← hy]; exact Nat.div_le_self _ _
     obtain ⟨b, hb⟩ : ∃ b, y % 2 = b := ⟨_, rfl⟩
     have hb2 : b < 2 := by omega
     have hbN : N / 2 ^ m % 2 = b := by
      have h9 := byte_bit s m (by rw [hj]; exact hjs)
      rw [hj, hr, hβ, hy, hb, HN.out] at h9
      exact h9.symm
     obtain ⟨a, ha⟩ : ∃ a, bt N wd i k = a := ⟨_, rfl⟩
     have ha2 : a < 2 ^ k := by rw [← ha]; exact Nat.mod_lt _ (Nat.two_pow_pos _)
     have hk23 : 2 ^ k ≤ 2 ^ 23 := Nat.pow_le_pow_right (by decide) (by omega)
     obtain ⟨c, hc⟩ : ∃ c, b * 2 ^ k = c := ⟨_, rfl⟩
     have hcl : c ≤ 2 ^ 23 := by
      rw [← hc]
      have h2 : b * 2 ^ k ≤ 1 * 2 ^ k := Nat.mul_le_mul_right _ (by omega)
      omega
     have V := or_i64 a c (by omega) (by omega)
     have hac : a ||| c = bt N wd i (k + 1) := by
      rw [← hc, or_add a b k ha2, bt_succ, ha, Hiw.out, hm, hbN]
     rw [hac] at V
     obtain ⟨v, hv⟩ : ∃ v, bt N wd i (k + 1) = v := ⟨_, rfl⟩
     rw [hv] at V
     have fm : (iw : Int) + (k : Int) = (m : Int) := by omega
     have fmw : IntKind.i64.wrap ((iw : Int) + (k : Int)) = (m : Int) := by rw [fm, IntKind.wrap_i64]; omega
     have fj : (m : Int).tdiv 8 = (j : Int) := by rw [Int.tdiv_eq_ediv_of_nonneg (by omega)]; omega
     have fjw : IntKind.i64.wrap ((m : Int).tdiv 8) = (j : Int) := by rw [fj, IntKind.wrap_i64]; omega
     have fjw2 : IntKind.i64.wrap (j : Int) = (j : Int) := by rw [IntKind.wrap_i64]; omega
     have fcw2 : IntKind.i64.wrap (c : Int) = (c : Int) := by rw [IntKind.wrap_i64]; omega
     have fr : (m : Int).tmod 8 = (r : Int) := by rw [Int.tmod_eq_emod_of_nonneg (by omega)]; omega
     have fku : IntKind.u64.wrap (k : Int) = (k : Int) := by rw [IntKind.wrap_u64]; omega
     have fru : IntKind.u64.wrap (r : Int) = (r : Int) := by rw [IntKind.wrap_u64]; omega
     have fy : (β : Int) / 2 ^ r = (y : Int) := by rw [← hy]; simp
     have fand := and_u8 y (by omega)
     rw [hb] at fand
     have fbw : IntKind.i64.wrap (b : Int) = (b : Int) := by rw [IntKind.wrap_i64]; omega
     have fc : (b : Int) * 2 ^ k = (c : Int) := by rw [← hc, Int.natCast_mul, Int.natCast_pow]; rfl
     have fcw : IntKind.i64.wrap ((b : Int) * 2 ^ k) = (c : Int) := by rw [fc, IntKind.wrap_i64]; omega
     have ca : wr.cell? ⟨w.heap.size + 1, i, none⟩ = some (.int .i64 (a : Int)) := by
      rw [← ha]
      have h9 := fl_at A0.out.row i hlt
      unfold upd at h9
      rw [if_pos rfl] at h9
      exact h9
     have hk63 : k ≤ 63 := by omega
     have hr63 : r ≤ 7 := by omega
     have Hv := Away.mk hv
     clear hm hj hr hy hb hβ hc hv ha hbN hac
     go_wp2_with fail
     refine still_tail 18 (by kernel_rfl) (by kernel_rfl) ?_
     simp only [List.take_succ_cons, List.take_zero, List.drop_succ_cons, List.drop_zero]
     repeat still_step
     refine wpStill_nil ?_
     have A1 : Away (At (w.heap.size + 1) (FL .i64 256 (upd (pt (fun i => ((bt N wd i wd : Nat) : Int)) (fun _ => 0) i) i ((bt N wd i k : Nat) : Int))) 25 W wr.drew) := ⟨at_drew A0.out⟩
     clear ca fm fmw fj fjw fjw2 fcw2 fr fku fru fy fand fbw fc fcw V A0 hidx
     with_reducible refine wpList_put2 A1 rfl _ _ _ rfl rfl ?_
     refine ⟨_, _, _, rfl, rfl, rfl, by rw [fl_size]; exact hlt, ?_⟩
     intro wn HR
     rw [fl_set, fl_congr .i64 256 (h' := upd (pt (fun i => ((bt N wd i wd : Nat) : Int)) (fun _ => 0) i) i ((bt N wd i (k + 1) : Nat) : Int)) (fun j _ => by
      unfold upd
      by_cases e : j = i
      ·rw [if_pos e, if_pos e, Hv.out]
      ·rw [if_neg e, if_neg e, if_neg e])] at HR
     go_wp2_with fail
     go_roundw
     case rel => exact ⟨k + 1, by omega, by go_num, HR⟩
     case measure => simp [intOf]; omega
    ·obtain rfl : k = wd := by omega
     have A1 : Away (At (w.heap.size + 1) (FL .i64 256 (pt (fun i => ((bt N k i k : Nat) : Int)) (fun _ => 0) (i + 1))) 25 W wr) := ⟨by
      rw [← pt_upd (fun i => ((bt N k i k : Nat) : Int)) (fun _ => 0) i _ rfl]; exact A0.out⟩
     clear A0
     go_wp2_with fail
     go_roundw
     case rel => exact ⟨i + 1, by omega, by go_num, A1⟩
     case measure => simp [intOf]; omega
  ·obtain rfl : i = 256 := by omega
   simp only [Int.cast_ofNat_Int]
   rw [fl_all, HR.out] at A0
   have Hrow := Away.mk A0.out.row
   have Hres : Away (wr.heap[w.heap.size]? = some (.cells z 25 (0, 0))) := ⟨A0.out.other (by omega) (by omega) R0.out⟩
   have HB : Away (Below w.heap.size w wr) := ⟨BW.out.trans (A0.out.below (by omega) (by omega))⟩
   clear A0
   go_wp2_with (first
    | (refine wpList_load_row rfl 25 _ rfl (w.heap.size + 1) rfl 25 R (0, 0) _ Hrow.out Tryz.underlying25 rfl Ri.out ?_)
    | (refine wpList_store_row rfl 25 _ _ rfl w.heap.size R rfl rfl 25 _ Hres.out Ri.out Rz.out Ro.out ?_))
   refine bodyPost_ret_by (v := .agg R) (results_cell_row rfl _ _ w.heap.size 25 _ (0, 0) _ rfl (setRow_heap _ _ _ _ _ _ Hres.out) Tryz.underlying25 rfl Ri.out) rfl ?_
   exact ⟨rfl, HB.out.trans (below_setRow _ _ _ (Nat.le_refl _))⟩
end rbitc
namespace rbitf
open Go Go.RowKit
open arr mem stil bitm polys fldm rbita rbitb rbitc rbitd rbite
set_option maxRecDepth 100000 in
set_option maxHeartbeats 4000000 in
theorem unpack_bad (s : ByteArray) (most : Int) (w : World) (hm : most < 1 ∨ 8380417 ≤ most ∨ s.size ≠ 32 * lb most.toNat) :
 Calls Tryz.prog 66 #[.string s, .int .i64 most] w fun e w' => e = .returned (.tuple #[.agg (FL .i64 256 fun _ => 0), .int .i64 1]) ∧ Below w.heap.size w w' := by
 obtain ⟨hz, hsize⟩ := zero_of_info infoP
 obtain ⟨z, HZ⟩ := ex_eq (FL .i64 256 fun _ => 0)
 rw [HZ.out] at hz ⊢
 have Hzs : Away (z.size = 256) := ⟨by rw [← HZ.out]; exact fl_size _ _ _⟩
 have Zi : Away ((Tryz.prog.info? 25).map (·.size) = some z.size) := ⟨by rw [Hzs.out]; exact hsize⟩
 have Zo : Away (z.all (·.oneCell') = true) := ⟨by rw [← HZ.out]; exact fl_one _ _ _⟩
 obtain ⟨W, hW⟩ : ∃ x, w.alloc (.cells z 25) = x := ⟨_, rfl⟩
 have HW := Away.mk hW
 have BW : Away (Below w.heap.size w W) := ⟨by rw [← hW]; exact below_alloc _ _⟩
 have hrow : Away (W.heap[w.heap.size]? = some (.cells z 25 (0, 0))) := ⟨by rw [← hW]; exact heap_at _ _ _ rfl⟩
 clear hW hsize
 have hm : most < 1 ∨ (¬ most < 1 ∧ 8380417 ≤ most) ∨ (¬ most < 1 ∧ ¬ 8380417 ≤ most ∧ s.size ≠ 32 * lb most.toNat) := by omega
 rcases hm with hm | ⟨h1, hm⟩ | ⟨h1, h2, hm⟩
 ·go_enter Tryz.func66, Tryz.ntmps66
  go_wp2_with (first | (rw [HW.out]) | (refine wpList_store_row rfl 25 _ _ rfl w.heap.size z rfl rfl 25 _ hrow.out Zi.out rfl Zo.out ?_))
  refine bodyPost_ret_by (v := .tuple #[.agg z, .int .i64 1]) (rbite.results_cell_tmp rfl _ _ w.heap.size 25 _ (0, 0) _ rfl (setRow_heap _ _ _ _ _ _ hrow.out) Tryz.underlying25 rfl Zi.out _ rfl) rfl ?_
  exact ⟨rfl, BW.out.trans (below_setRow _ _ _ (Nat.le_refl _))⟩
 ·go_enter Tryz.func66, Tryz.ntmps66
  go_wp2_with (first | (rw [HW.out]) | (refine wpList_store_row rfl 25 _ _ rfl w.heap.size z rfl rfl 25 _ hrow.out Zi.out rfl Zo.out ?_))
  refine bodyPost_ret_by (v := .tuple #[.agg z, .int .i64 1]) (rbite.results_cell_tmp rfl _ _ w.heap.size 25 _ (0, 0) _ rfl (setRow_heap _ _ _ _ _ _ hrow.out) Tryz.underlying25 rfl Zi.out _ rfl) rfl ?_
  exact ⟨rfl, BW.out.trans (below_setRow _ _ _ (Nat.le_refl _))⟩
 ·have hl := Away.mk (fun w1 => long_any most (by omega) w1)
  have hl23 := lb_small most (by omega)
  obtain ⟨wd, hwd⟩ : ∃ x, lb most.toNat = x := ⟨_, rfl⟩
  rw [hwd] at hm hl hl23
  obtain ⟨n, hn⟩ : ∃ n, 32 * wd = n := ⟨_, rfl⟩
  have fn : IntKind.i64.wrap (32 * (wd : Int)) = (n : Int) := by rw [IntKind.wrap_i64]; omega
  rw [hn] at hm
  obtain ⟨m, hsm⟩ := ex_eq s.size
  have fne : ((s.size : Int) != (n : Int)) = true := by simp only [bne_iff_ne, ne_eq]; omega
  have h2' : ¬ 8380417 ≤ most := h2
  clear hwd hm hn
  go_enter Tryz.func66, Tryz.ntmps66
  go_wp2_with (rw [HW.out])
  refine (hl.out _).mono ?_
  rintro e w1 ⟨rfl, rfl⟩
  go_wp2_with (first | (rw [HW.out]) | (refine wpList_store_row rfl 25 _ _ rfl w.heap.size z rfl rfl 25 _ hrow.out Zi.out rfl Zo.out ?_))
  refine bodyPost_ret_by (v := .tuple #[.agg z, .int .i64 1]) (rbite.results_cell_tmp rfl _ _ w.heap.size 25 _ (0, 0) _ rfl (setRow_heap _ _ _ _ _ _ hrow.out) Tryz.underlying25 rfl Zi.out _ rfl) rfl ?_
  exact ⟨rfl, BW.out.trans (below_setRow _ _ _ (Nat.le_refl _))⟩
set_option maxRecDepth 100000 in
set_option maxHeartbeats 4000000 in
theorem unpack_any (s : ByteArray) (most : Int) (w : World) (h1 : 1 ≤ most) (h2 : most < 8380417) (hs : s.size = 32 * lb most.toNat) :
 Calls Tryz.prog 66 #[.string s, .int .i64 most] w fun e w' => e = .returned (if inb (up s (lb most.toNat)) most then .tuple #[.agg (FL .i64 256 (up s (lb most.toNat))), .int .i64 0] else .tuple #[.agg (FL .i64 256 fun _ => 0), .int .i64 3]) ∧ Below w.heap.size w w' := by
 obtain ⟨hz, hsize⟩ := zero_of_info infoP
 have hl := Away.mk (fun w1 => long_any most (by omega) w1)
 have hl23 := lb_small most (by omega)
 obtain ⟨wd, hwd⟩ : ∃ x, lb most.toNat = x := ⟨_, rfl⟩
 rw [hwd] at hs hl hl23 ⊢
 have HN := Away.mk (fun w1 => numbers_any s wd w1 hl23 (by omega))
 obtain ⟨f, Hf⟩ := ex_eq (up s wd)
 have ef : (fun i => ((bt (pk 8 (bys s)) wd i wd : Nat) : Int)) = f := by rw [← Hf.out]; rfl
 rw [ef] at HN
 rw [Hf.out]
 have Hpos : Away (∀ i, 0 ≤ f i) := ⟨fun i => by rw [← Hf.out]; exact Int.natCast_nonneg _⟩
 have Hidx : Away (∀ i : Nat, i < 256 → ∀ w1, (Instr.index 25 (.agg (FL .i64 256 f)) (.int .i64 (i : Int))).run Tryz.prog w1 = .ok (.int .i64 (f i)) w1) := ⟨fun i hi w1 => index_row (P := Tryz.prog) Tryz.underlying25 (by kernel_rfl) (by kernel_rfl) (by kernel_rfl) _ _ i hi (fl_get .i64 256 f i hi) w1⟩
 obtain ⟨z, HZ⟩ := ex_eq (FL .i64 256 fun _ => 0)
 rw [HZ.out] at hz ⊢
 have Hzs : Away (z.size = 256) := ⟨by rw [← HZ.out]; exact fl_size _ _ _⟩
 have Zi : Away ((Tryz.prog.info? 25).map (·.size) = some z.size) := ⟨by rw [Hzs.out]; exact hsize⟩
 have Zo : Away (z.all (·.oneCell') = true) := ⟨by rw [← HZ.out]; exact fl_one _ _ _⟩
 have Gs : Away ((FL .i64 256 f).size = 256) := ⟨fl_size _ _ _⟩
 have Go : Away ((FL .i64 256 f).all (·.oneCell') = true) := ⟨fl_one _ _ _⟩
 obtain ⟨G, HG⟩ := ex_eq (FL .i64 256 f)
 rw [HG.out] at HN Hidx Gs Go ⊢
 have Gi : Away ((Tryz.prog.info? 25).map (·.size) = some G.size) := ⟨by rw [Gs.out]; exact hsize⟩
 obtain ⟨V, HV⟩ := ex_eq (if inb f most then Value.tuple #[.agg G, .int .i64 0] else .tuple #[.agg z, .int .i64 3])
 rw [HV.out]
 obtain ⟨W, hW⟩ : ∃ x, w.alloc (.cells z 25) = x := ⟨_, rfl⟩
 have HW := Away.mk hW
 have BW : Away (Below w.heap.size w W) := ⟨by rw [← hW]; exact below_alloc _ _⟩
 have hrow : Away (W.heap[w.heap.size]? = some (.cells z 25 (0, 0))) := ⟨by rw [← hW]; exact heap_at _ _ _ rfl⟩
 have hWs : Away (W.heap.size = w.heap.size + 1) := ⟨by rw [← hW, size_alloc]⟩
 obtain ⟨n, hn⟩ : ∃ n, 32 * wd = n := ⟨_, rfl⟩
 have fn : IntKind.i64.wrap (32 * (wd : Int)) = (n : Int) := by rw [IntKind.wrap_i64]; omega
 obtain ⟨m, hsm⟩ := ex_eq s.size
 have fne : ((s.size : Int) != (n : Int)) = false := by rw [show (s.size : Int) = (n : Int) by omega]; simp
 have g1 : ¬ most < 1 := by omega
 have g2 : ¬ 8380417 ≤ most := by omega
 clear hW hsize hwd hs hn Hf ef HZ HG h1 h2
 go_enter Tryz.func66, Tryz.ntmps66
 go_wp2_with (rw [HW.out])
 refine (hl.out _).mono ?_
 rintro e w1 ⟨rfl, rfl⟩
 go_wp2_with fail
 refine (hl.out _).mono ?_
 rintro e w1 ⟨rfl, rfl⟩
 go_wp2_with fail
 refine (HN.out _).mono ?_
 rintro e w2 ⟨rfl, hb2⟩
 have hrow2 : Away (w2.heap[w.heap.size]? = some (.cells z 25 (0, 0))) := ⟨(hb2.block w.heap.size (by rw [hWs.out]; omega)).trans hrow.out⟩
 have B2 : Away (Below w.heap.size w w2) := ⟨BW.out.trans (hb2.mono (by rw [hWs.out]; omega))⟩
 have hlt2 : w.heap.size < w2.heap.size := by have := hb2.size; rw [hWs.out] at this; omega
 obtain ⟨W3, hW3⟩ : ∃ x, w2.alloc (.cells G 25) = x := ⟨_, rfl⟩
 have HW3 := Away.mk hW3
 have r3 : Away (W3.heap[w2.heap.size]? = some (.cells G 25 (0, 0))) := ⟨by rw [← hW3]; exact heap_at _ _ _ rfl⟩
 have r0 : Away (W3.heap[w.heap.size]? = some (.cells z 25 (0, 0))) := ⟨by rw [← hW3, heap_past _ _ _ hlt2]; exact hrow2.out⟩
 have B3 : Away (Below w.heap.size w W3) := ⟨by rw [← hW3]; exact B2.out.alloc (by omega) _⟩
 clear hb2 hW3 hlt2
 go_wp2_with (first
  | ((with_reducible refine wpList_store_new rfl 25 _ _ rfl G ?hx ?hy ?hi ?ho ?h1 ?hn ?_); (case hx => rfl); (case hy => rfl); (case hi => exact Gi.out); (case ho => rw [Hzs.out, Gs.out]); (case h1 => exact Go.out); (case hn => rfl); rw [HW3.out])
  | (refine wpList_load_row rfl 25 _ rfl w2.heap.size rfl 25 G (0, 0) _ r3.out Tryz.underlying25 rfl Gi.out ?_))
 go_loopw [29] (fun c wr => ∃ j : Nat, j ≤ 256 ∧ c = .int .i64 (j : Int) ∧ Away (∀ i, i < j → f i ≤ most) ∧ W3 = wr) (fun c _ => 256 - (intOf c).toNat)
 case atStart => exact ⟨0, Nat.zero_le _, rfl, ⟨fun i hi => by omega⟩, rfl⟩
 case round =>
  obtain ⟨j, hj, rfl, Hin, rfl⟩ := hrel
  by_cases hlt : j < 256
  ·have hjz : (j : Int) < 256 := by omega
   have hidx := Hidx.out j hlt
   obtain ⟨x, hx⟩ : ∃ x, f j = x := ⟨_, rfl⟩
   rw [hx] at hidx
   by_cases hbad : most < x
   ·have hV : Away (V = .tuple #[.agg z, .int .i64 3]) := ⟨by rw [← HV.out, if_neg]; intro hall; have := hall j hlt; rw [hx] at this; omega⟩
    clear hx
    go_wp2_with (refine wpList_store_row rfl 25 _ _ rfl w.heap.size z rfl rfl 25 _ r0.out Zi.out rfl Zo.out ?_)
    refine bodyPost_ret_by (v := .tuple #[.agg z, .int .i64 3]) (rbite.results_cell_tmp rfl _ _ w.heap.size 25 _ (0, 0) _ rfl (setRow_heap _ _ _ _ _ _ r0.out) Tryz.underlying25 rfl Zi.out _ rfl) rfl ?_
    exact ⟨by rw [hV.out], B3.out.trans (below_setRow _ _ _ (Nat.le_refl _))⟩
   ·have Hin2 : Away (∀ i, i < j + 1 → f i ≤ most) := ⟨fun i hi => by
     by_cases e : i = j
     ·subst e; rw [hx]; omega
     ·exact Hin.out i (by omega)⟩
    clear hx
    go_wp2_with fail
    go_roundw
    case rel => exact ⟨j + 1, by omega, by go_num, Hin2, trivial⟩
    case measure => simp [intOf]; omega
  ·obtain rfl : j = 256 := by omega
   simp only [Int.cast_ofNat_Int]
   have hV : Away (V = .tuple #[.agg G, .int .i64 0]) := ⟨by rw [← HV.out, if_pos]; exact fun i hi => ⟨Hpos.out i, Hin.out i hi⟩⟩
   clear hj hlt
   go_wp2_with (first
    | (refine wpList_load_row rfl 25 _ rfl w2.heap.size rfl 25 G (0, 0) _ r3.out Tryz.underlying25 rfl Gi.out ?_)
    | (refine wpList_store_row rfl 25 _ _ rfl w.heap.size G rfl rfl 25 _ r0.out Gi.out (by rw [Hzs.out, Gs.out]) Go.out ?_))
   refine bodyPost_ret_by (v := .tuple #[.agg G, .int .i64 0]) (rbite.results_cell_tmp rfl _ _ w.heap.size 25 _ (0, 0) _ rfl (setRow_heap _ _ _ _ _ _ r0.out) Tryz.underlying25 rfl Gi.out _ rfl) rfl ?_
   exact ⟨by rw [hV.out], B3.out.trans (below_setRow _ _ _ (Nat.le_refl _))⟩
end rbitf
namespace rbitg
open Go Go.RowKit
open arr mem stil bitm polys fldm rbita rbitb rbitc rbitd rbite rbitf rfld
set_option maxRecDepth 100000 in
set_option maxHeartbeats 2000000 in
theorem unsigned_bad (s : ByteArray) (low high : Int) (w : World) (hm : low < 0 ∨ high < 1 ∨ 4190208 ≤ low ∨ 4190208 ≤ high) :
 Calls Tryz.prog 106 #[.string s, .int .i64 low, .int .i64 high] w fun e w' => e = .returned (.tuple #[.agg (FL .i64 256 fun _ => 0), .int .i64 1]) ∧ Below w.heap.size w w' := by
 obtain ⟨hz, hsize⟩ := zero_of_info infoP
 obtain ⟨z, HZ⟩ := ex_eq (FL .i64 256 fun _ => 0)
 rw [HZ.out] at hz ⊢
 have Hzs : Away (z.size = 256) := ⟨by rw [← HZ.out]; exact fl_size _ _ _⟩
 have Zi : Away ((Tryz.prog.info? 25).map (·.size) = some z.size) := ⟨by rw [Hzs.out]; exact hsize⟩
 have Zo : Away (z.all (·.oneCell') = true) := ⟨by rw [← HZ.out]; exact fl_one _ _ _⟩
 obtain ⟨W, hW⟩ : ∃ x, w.alloc (.cells z 25) = x := ⟨_, rfl⟩
 have HW := Away.mk hW
 have BW : Away (Below w.heap.size w W) := ⟨by rw [← hW]; exact below_alloc _ _⟩
 have hrow : Away (W.heap[w.heap.size]? = some (.cells z 25 (0, 0))) := ⟨by rw [← hW]; exact heap_at _ _ _ rfl⟩
 clear hW hsize
 have hm : low < 0 ∨ (¬ low < 0 ∧ high < 1) ∨ (¬ low < 0 ∧ ¬ high < 1 ∧ 4190208 ≤ low) ∨ (¬ low < 0 ∧ ¬ high < 1 ∧ ¬ 4190208 ≤ low ∧ 4190208 ≤ high) := by omega
 rcases hm with hm | ⟨h1, hm⟩ | ⟨h1, h2, hm⟩ | ⟨h1, h2, h3, hm⟩
 ·go_enter Tryz.func106, Tryz.ntmps106
  go_wp2_with (first | (rw [HW.out]) | (refine wpList_store_row rfl 25 _ _ rfl w.heap.size z rfl rfl 25 _ hrow.out Zi.out rfl Zo.out ?_))
  refine bodyPost_ret_by (v := .tuple #[.agg z, .int .i64 1]) (rbite.results_cell_tmp rfl _ _ w.heap.size 25 _ (0, 0) _ rfl (setRow_heap _ _ _ _ _ _ hrow.out) Tryz.underlying25 rfl Zi.out _ rfl) rfl ?_
  exact ⟨rfl, BW.out.trans (below_setRow _ _ _ (Nat.le_refl _))⟩
 ·go_enter Tryz.func106, Tryz.ntmps106
  go_wp2_with (first | (rw [HW.out]) | (refine wpList_store_row rfl 25 _ _ rfl w.heap.size z rfl rfl 25 _ hrow.out Zi.out rfl Zo.out ?_))
  refine bodyPost_ret_by (v := .tuple #[.agg z, .int .i64 1]) (rbite.results_cell_tmp rfl _ _ w.heap.size 25 _ (0, 0) _ rfl (setRow_heap _ _ _ _ _ _ hrow.out) Tryz.underlying25 rfl Zi.out _ rfl) rfl ?_
  exact ⟨rfl, BW.out.trans (below_setRow _ _ _ (Nat.le_refl _))⟩
 ·go_enter Tryz.func106, Tryz.ntmps106
  go_wp2_with (first | (rw [HW.out]) | (refine wpList_store_row rfl 25 _ _ rfl w.heap.size z rfl rfl 25 _ hrow.out Zi.out rfl Zo.out ?_))
  refine bodyPost_ret_by (v := .tuple #[.agg z, .int .i64 1]) (rbite.results_cell_tmp rfl _ _ w.heap.size 25 _ (0, 0) _ rfl (setRow_heap _ _ _ _ _ _ hrow.out) Tryz.underlying25 rfl Zi.out _ rfl) rfl ?_
  exact ⟨rfl, BW.out.trans (below_setRow _ _ _ (Nat.le_refl _))⟩
 ·go_enter Tryz.func106, Tryz.ntmps106
  go_wp2_with (first | (rw [HW.out]) | (refine wpList_store_row rfl 25 _ _ rfl w.heap.size z rfl rfl 25 _ hrow.out Zi.out rfl Zo.out ?_))
  refine bodyPost_ret_by (v := .tuple #[.agg z, .int .i64 1]) (rbite.results_cell_tmp rfl _ _ w.heap.size 25 _ (0, 0) _ rfl (setRow_heap _ _ _ _ _ _ hrow.out) Tryz.underlying25 rfl Zi.out _ rfl) rfl ?_
  exact ⟨rfl, BW.out.trans (below_setRow _ _ _ (Nat.le_refl _))⟩
set_option maxRecDepth 100000 in
set_option maxHeartbeats 4000000 in
theorem unsigned_err (s : ByteArray) (low high : Int) (w : World) (c : Int) (h1 : 0 ≤ low) (h2 : 1 ≤ high) (h3 : low < 4190208) (h4 : high < 4190208) (hc : c ≠ 0)
 (hu : ∀ w1 : World, Calls Tryz.prog 66 #[.string s, .int .i64 (low + high)] w1 fun e w' => e = .returned (.tuple #[.agg (FL .i64 256 fun _ => 0), .int .i64 c]) ∧ Below w1.heap.size w1 w') :
 Calls Tryz.prog 106 #[.string s, .int .i64 low, .int .i64 high] w fun e w' => e = .returned (.tuple #[.agg (FL .i64 256 fun _ => 0), .int .i64 c]) ∧ Below w.heap.size w w' := by
 have HU := Away.mk hu
 clear hu
 obtain ⟨hz, hsize⟩ := zero_of_info infoP
 obtain ⟨z, HZ⟩ := ex_eq (FL .i64 256 fun _ => 0)
 rw [HZ.out] at hz HU ⊢
 have Hzs : Away (z.size = 256) := ⟨by rw [← HZ.out]; exact fl_size _ _ _⟩
 have Zi : Away ((Tryz.prog.info? 25).map (·.size) = some z.size) := ⟨by rw [Hzs.out]; exact hsize⟩
 have Zo : Away (z.all (·.oneCell') = true) := ⟨by rw [← HZ.out]; exact fl_one _ _ _⟩
 obtain ⟨W, hW⟩ : ∃ x, w.alloc (.cells z 25) = x := ⟨_, rfl⟩
 have HW := Away.mk hW
 have BW : Away (Below w.heap.size w W) := ⟨by rw [← hW]; exact below_alloc _ _⟩
 have hrow : Away (W.heap[w.heap.size]? = some (.cells z 25 (0, 0))) := ⟨by rw [← hW]; exact heap_at _ _ _ rfl⟩
 have hWs : Away (W.heap.size = w.heap.size + 1) := ⟨by rw [← hW, size_alloc]⟩
 have g1 : ¬ low < 0 := by omega
 have g2 : ¬ high < 1 := by omega
 have g3 : ¬ 4190208 ≤ low := by omega
 have g4 : ¬ 4190208 ≤ high := by omega
 have fl2 : IntKind.i64.wrap (low + high) = low + high := by rw [IntKind.wrap_i64]; omega
 have fc : (c != 0) = true := by simpa using hc
 clear hW hsize HZ h1 h2 h3 h4 hc
 go_enter Tryz.func106, Tryz.ntmps106
 go_wp2_with (rw [HW.out])
 refine (HU.out _).mono ?_
 rintro e w2 ⟨rfl, hb2⟩
 have hrow2 : Away (w2.heap[w.heap.size]? = some (.cells z 25 (0, 0))) := ⟨(hb2.block w.heap.size (by rw [hWs.out]; omega)).trans hrow.out⟩
 have B2 : Away (Below w.heap.size w w2) := ⟨BW.out.trans (hb2.mono (by rw [hWs.out]; omega))⟩
 have hlt2 : w.heap.size < w2.heap.size := by have := hb2.size; rw [hWs.out] at this; omega
 obtain ⟨W3, hW3⟩ : ∃ x, w2.alloc (.cells z 25) = x := ⟨_, rfl⟩
 have HW3 := Away.mk hW3
 have r3 : Away (W3.heap[w2.heap.size]? = some (.cells z 25 (0, 0))) := ⟨by rw [← hW3]; exact heap_at _ _ _ rfl⟩
 have r0 : Away (W3.heap[w.heap.size]? = some (.cells z 25 (0, 0))) := ⟨by rw [← hW3, heap_past _ _ _ hlt2]; exact hrow2.out⟩
 have B3 : Away (Below w.heap.size w W3) := ⟨by rw [← hW3]; exact B2.out.alloc (by omega) _⟩
 clear hb2 hW3 hlt2
 go_wp2_with (first
  | ((with_reducible refine wpList_store_new rfl 25 _ _ rfl z ?hx ?hy ?hi ?ho ?h1 ?hn ?_); (case hx => rfl); (case hy => rfl); (case hi => exact Zi.out); (case ho => rfl); (case h1 => exact Zo.out); (case hn => rfl); rw [HW3.out])
  | (refine wpList_load_row rfl 25 _ rfl w2.heap.size rfl 25 z (0, 0) _ r3.out Tryz.underlying25 rfl Zi.out ?_)
  | (refine wpList_store_row rfl 25 _ _ rfl w.heap.size z rfl rfl 25 _ r0.out Zi.out rfl Zo.out ?_))
 refine bodyPost_ret_by (v := .tuple #[.agg z, .int .i64 c]) (rbite.results_cell_tmp rfl _ _ w.heap.size 25 _ (0, 0) _ rfl (setRow_heap _ _ _ _ _ _ r0.out) Tryz.underlying25 rfl Zi.out _ rfl) rfl ?_
 exact ⟨rfl, B3.out.trans (below_setRow _ _ _ (Nat.le_refl _))⟩
set_option maxRecDepth 100000 in
set_option maxHeartbeats 4000000 in
theorem unsigned_good (s : ByteArray) (low high : Int) (w : World) (f : Nat → Int) (h1 : 0 ≤ low) (h2 : 1 ≤ high) (h3 : low < 4190208) (h4 : high < 4190208) (hf : ∀ i, i < 256 → 0 ≤ f i ∧ f i ≤ low + high)
 (hu : ∀ w1 : World, Calls Tryz.prog 66 #[.string s, .int .i64 (low + high)] w1 fun e w' => e = .returned (.tuple #[.agg (FL .i64 256 f), .int .i64 0]) ∧ Below w1.heap.size w1 w') :
 Calls Tryz.prog 106 #[.string s, .int .i64 low, .int .i64 high] w fun e w' => e = .returned (.tuple #[.agg (FL .i64 256 (un f high)), .int .i64 0]) ∧ Below w.heap.size w w' := by
 have HU := Away.mk hu
 have Hf := Away.mk hf
 clear hu hf
 have Hidx : Away (∀ i : Nat, i < 256 → ∀ w1, (Instr.index 25 (.agg (FL .i64 256 f)) (.int .i64 (i : Int))).run Tryz.prog w1 = .ok (.int .i64 (f i)) w1) := ⟨fun i hi w1 => index_row (P := Tryz.prog) Tryz.underlying25 (by kernel_rfl) (by kernel_rfl) (by kernel_rfl) _ _ i hi (fl_get .i64 256 f i hi) w1⟩
 obtain ⟨hz, hsize⟩ := zero_of_info infoP
 obtain ⟨z, HZ⟩ := ex_eq (FL .i64 256 fun _ => 0)
 rw [HZ.out] at hz
 have Hzs : Away (z.size = 256) := ⟨by rw [← HZ.out]; exact fl_size _ _ _⟩
 have Fs : Away ((FL .i64 256 f).size = 256) := ⟨fl_size _ _ _⟩
 have Fo : Away ((FL .i64 256 f).all (·.oneCell') = true) := ⟨fl_one _ _ _⟩
 have Hpz : Away (FL .i64 256 (pt (un f high) f 0) = FL .i64 256 f) := ⟨by rw [pt_zero]⟩
 obtain ⟨F, HF⟩ := ex_eq (FL .i64 256 f)
 rw [HF.out] at HU Hidx Fs Fo Hpz
 have Fi : Away ((Tryz.prog.info? 25).map (·.size) = some F.size) := ⟨by rw [Fs.out]; exact hsize⟩
 have Gs : Away ((FL .i64 256 (un f high)).size = 256) := ⟨fl_size _ _ _⟩
 have Go : Away ((FL .i64 256 (un f high)).all (·.oneCell') = true) := ⟨fl_one _ _ _⟩
 have Hall : Away (FL .i64 256 (pt (un f high) f 256) = FL .i64 256 (un f high)) := ⟨fl_all _ _ _ _⟩
 obtain ⟨G, HG⟩ := ex_eq (FL .i64 256 (un f high))
 rw [HG.out] at Gs Go Hall ⊢
 have Gi : Away ((Tryz.prog.info? 25).map (·.size) = some G.size) := ⟨by rw [Gs.out]; exact hsize⟩
 obtain ⟨W, hW⟩ : ∃ x, w.alloc (.cells z 25) = x := ⟨_, rfl⟩
 have HW := Away.mk hW
 have BW : Away (Below w.heap.size w W) := ⟨by rw [← hW]; exact below_alloc _ _⟩
 have hrow : Away (W.heap[w.heap.size]? = some (.cells z 25 (0, 0))) := ⟨by rw [← hW]; exact heap_at _ _ _ rfl⟩
 have hWs : Away (W.heap.size = w.heap.size + 1) := ⟨by rw [← hW, size_alloc]⟩
 have g1 : ¬ low < 0 := by omega
 have g2 : ¬ high < 1 := by omega
 have g3 : ¬ 4190208 ≤ low := by omega
 have g4 : ¬ 4190208 ≤ high := by omega
 have fl2 : IntKind.i64.wrap (low + high) = low + high := by rw [IntKind.wrap_i64]; omega
 have HL := Away.mk (And.intro h1 (And.intro h2 (And.intro h3 h4)))
 clear hW hsize HZ HG HF h1 h2 h3 h4
 go_enter Tryz.func106, Tryz.ntmps106
 go_wp2_with (rw [HW.out])
 refine (HU.out _).mono ?_
 rintro e w2 ⟨rfl, hb2⟩
 have hrow2 : Away (w2.heap[w.heap.size]? = some (.cells z 25 (0, 0))) := ⟨(hb2.block w.heap.size (by rw [hWs.out]; omega)).trans hrow.out⟩
 have B2 : Away (Below w.heap.size w w2) := ⟨BW.out.trans (hb2.mono (by rw [hWs.out]; omega))⟩
 have hlt2 : w.heap.size < w2.heap.size := by have := hb2.size; rw [hWs.out] at this; omega
 obtain ⟨W3, hW3⟩ : ∃ x, w2.alloc (.cells F 25) = x := ⟨_, rfl⟩
 have HW3 := Away.mk hW3
 have r3 : Away (W3.heap[w2.heap.size]? = some (.cells F 25 (0, 0))) := ⟨by rw [← hW3]; exact heap_at _ _ _ rfl⟩
 have r0 : Away (W3.heap[w.heap.size]? = some (.cells z 25 (0, 0))) := ⟨by rw [← hW3, heap_past _ _ _ hlt2]; exact hrow2.out⟩
 have B3 : Away (Below w.heap.size w W3) := ⟨by rw [← hW3]; exact B2.out.alloc (by omega) _⟩
 have A0 : Away (At w2.heap.size (FL .i64 256 (pt (un f high) f 0)) 25 W3 W3) := ⟨by rw [Hpz.out]; exact At.refl r3.out⟩
 have Hlt2 := Away.mk hlt2
 clear hb2 hW3 hlt2
 go_wp2_with (first
  | ((with_reducible refine wpList_store_new rfl 25 _ _ rfl F ?hx ?hy ?hi ?ho ?h1 ?hn ?_); (case hx => rfl); (case hy => rfl); (case hi => exact Fi.out); (case ho => rw [Hzs.out, Fs.out]); (case h1 => exact Fo.out); (case hn => rfl); rw [HW3.out])
  | (refine wpList_load_row rfl 25 _ rfl w2.heap.size rfl 25 F (0, 0) _ r3.out Tryz.underlying25 rfl Fi.out ?_))
 go_loopw [40] (fun c wr => ∃ j : Nat, j ≤ 256 ∧ c = .int .i64 (j : Int) ∧ Away (At w2.heap.size (FL .i64 256 (pt (un f high) f j)) 25 W3 wr)) (fun c _ => 256 - (intOf c).toNat)
 case atStart => exact ⟨0, Nat.zero_le _, rfl, A0⟩
 case round =>
  clear A0
  obtain ⟨j, hj, rfl, A0⟩ := hrel
  by_cases hlt : j < 256
  ·have hjz : (j : Int) < 256 := by omega
   have hidx := Hidx.out j hlt
   have hfj := Hf.out j hlt
   obtain ⟨x, hx⟩ : ∃ x, f j = x := ⟨_, rfl⟩
   rw [hx] at hidx hfj
   have fs : IntKind.i64.wrap (high - x) = high - x := by rw [IntKind.wrap_i64]; have := HL.out; omega
   have hun : Away ((high - x) % 8380417 = un f high j) := ⟨by unfold un; rw [hx]⟩
   have Hre := Away.mk (fun w1 => reduce_any (high - x) w1)
   obtain ⟨y, hy⟩ : ∃ y, (high - x) % 8380417 = y := ⟨_, rfl⟩
   rw [hy] at hun Hre
   clear hx hy hfj
   go_wp2_with fail
   refine (Hre.out _).mono ?_
   rintro e w5 ⟨rfl, rfl⟩
   clear hidx
   go_wp2_with ((with_reducible refine wpList_put2 A0 rfl _ _ _ rfl rfl ?_); refine ⟨_, _, _, rfl, rfl, rfl, (by rw [fl_size]; exact hlt), ?_⟩; intro wn HR; rw [fl_set, pt_upd _ _ _ _ hun.out] at HR)
   go_roundw
   case rel => exact ⟨j + 1, by omega, by go_num, HR⟩
   case measure => simp [intOf]; omega
  ·obtain rfl : j = 256 := by omega
   simp only [Int.cast_ofNat_Int]
   rw [Hall.out] at A0
   have rg := Away.mk A0.out.row
   have rz : Away (wr.heap[w.heap.size]? = some (.cells z 25 (0, 0))) := ⟨A0.out.other (Array.getElem?_eq_some_iff.1 r0.out).1 (by have := Hlt2.out; omega) r0.out⟩
   have BE : Away (Below w.heap.size w wr) := ⟨B3.out.trans (A0.out.below (by exact B3.out.size) (by have := Hlt2.out; omega))⟩
   clear A0 hj hlt
   go_wp2_with (first
    | (refine wpList_load_row rfl 25 _ rfl w2.heap.size rfl 25 G (0, 0) _ rg.out Tryz.underlying25 rfl Gi.out ?_)
    | (refine wpList_store_row rfl 25 _ _ rfl w.heap.size G rfl rfl 25 _ rz.out Gi.out (by rw [Hzs.out, Gs.out]) Go.out ?_))
   refine bodyPost_ret_by (v := .tuple #[.agg G, .int .i64 0]) (rbite.results_cell_tmp rfl _ _ w.heap.size 25 _ (0, 0) _ rfl (setRow_heap _ _ _ _ _ _ rz.out) Tryz.underlying25 rfl Gi.out _ rfl) rfl ?_
   exact ⟨rfl, BE.out.trans (below_setRow _ _ _ (Nat.le_refl _))⟩
end rbitg
end Go.Proofs.YtlcafjdehcddcaaGreatDoor
