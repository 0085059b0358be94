/-
  What the document's own numbers of layer 10 returns: 256 numbers of a fixed width read bit by bit. Conditions: the string has the bytes.
-/
import Derived.Test.YtdlolhilmhlklaaDoorBiD
namespace Go.Proofs.YtdlolhilmhlklaaDoor.rbitc
open Go Go.RowKit
open Go.Proofs.YtdlolhilmhlklaaDoor.arr Go.Proofs.YtdlolhilmhlklaaDoor.mem Go.Proofs.YtdlolhilmhlklaaDoor.stil Go.Proofs.YtdlolhilmhlklaaDoor.bitm Go.Proofs.YtdlolhilmhlklaaDoor.polys Go.Proofs.YtdlolhilmhlklaaDoor.rbita Go.Proofs.YtdlolhilmhlklaaDoor.rbitb
set_option maxRecDepth 100000 in
set_option maxHeartbeats 4000000 in
theorem numbers_any (s : ByteArray) (wd : Nat) (w : World) (hw : wd ≤ 23) (hs : 32 * wd ≤ s.size) :
    Calls Tryd.prog 21 #[.string s, .int .i64 (wd : Int)] w fun e w' => e = .returned (.agg (FL .i64 256 fun i => ((bt (pk 8 (bys s)) wd i wd : Nat) : Int))) ∧ Below w.heap.size w w' := by
  obtain ⟨hz, hsize⟩ := zero_of_info infoP
  obtain ⟨z, HZ⟩ := ex_eq (FL .i64 256 fun _ => 0)
  rw [HZ.out] at hz
  have Hzs : Away (z.size = 256) := ⟨by rw [← HZ.out]; exact fl_size _ _ _⟩
  obtain ⟨N, HN⟩ := ex_eq (pk 8 (bys s))
  rw [HN.out]
  obtain ⟨R, HR⟩ := ex_eq (FL .i64 256 fun i => ((bt N wd i wd : Nat) : Int))
  have Ri : Away ((Tryd.prog.info? 25).map (·.size) = some R.size) := ⟨by rw [← HR.out, fl_size]; exact hsize⟩
  have Ro : Away (R.all (·.oneCell') = true) := ⟨by rw [← HR.out]; exact fl_one _ _ _⟩
  have Rz : Away (z.size = R.size) := ⟨by rw [Hzs.out, ← HR.out, fl_size]⟩
  rw [HR.out]
  obtain ⟨W, hW⟩ : ∃ x, (w.alloc (.cells z 25)).alloc (.cells z 25) = x := ⟨_, rfl⟩
  have HW := Away.mk hW
  have hWs : W.heap.size = w.heap.size + 2 := by rw [← hW, size_alloc, size_alloc]
  have BW : Away (Below w.heap.size w W) := ⟨by rw [← hW]; exact ((Below.refl _ _).alloc (Nat.le_refl _) _).alloc (by rw [size_alloc]; omega) _⟩
  have R0 : Away (W.heap[w.heap.size]? = some (.cells z 25 (0, 0))) := ⟨by rw [← hW, heap_past _ _ _ (by rw [size_alloc]; omega)]; exact heap_at _ _ _ rfl⟩
  have R1 : Away (W.heap[w.heap.size + 1]? = some (.cells (FL .i64 256 (pt (fun i => ((bt N wd i wd : Nat) : Int)) (fun _ => 0) 0)) 25 (0, 0))) := ⟨by rw [← hW, pt_zero, HZ.out]; exact heap_at _ _ _ (by rw [size_alloc])⟩
  clear hW hsize
  go_enter Tryd.func21, Tryd.ntmps21
  go_wp2_with (rw [HW.out])
  clear hz
  go_loopw [9] (fun v wr => ∃ i : Nat, i ≤ 256 ∧ v = .int .i64 (i : Int) ∧ Away (At (w.heap.size + 1) (FL .i64 256 (pt (fun i => ((bt N wd i wd : Nat) : Int)) (fun _ => 0) i)) 25 W wr)) (fun v _ => 256 - (intOf v).toNat)
  case atStart => exact ⟨0, Nat.zero_le _, rfl, ⟨At.refl R1.out⟩⟩
  case round =>
    obtain ⟨i, hi, rfl, A0⟩ := hrel
    by_cases hlt : i < 256
    · have hiz : (i : Int) < 256 := by omega
      have hiw : wd * i + wd ≤ 8 * s.size := by
        have h1 : wd * (i + 1) ≤ wd * 256 := Nat.mul_le_mul_left _ hlt
        rw [Nat.mul_succ] at h1
        omega
      have hiw3 : wd * i ≤ 23 * 256 := Nat.mul_le_mul hw (by omega)
      obtain ⟨iw, hiw2⟩ : ∃ y, wd * i = y := ⟨_, rfl⟩
      have fi : (i : Int) * (wd : Int) = (iw : Int) := by rw [← hiw2, Int.natCast_mul, Int.mul_comm]
      have fiw : IntKind.i64.wrap ((i : Int) * (wd : Int)) = (iw : Int) := by rw [fi, IntKind.wrap_i64]; omega
      have Hiw := Away.mk hiw2
      rw [hiw2] at hiw hiw3
      have A00 : Away (At (w.heap.size + 1) (FL .i64 256 (upd (pt (fun i => ((bt N wd i wd : Nat) : Int)) (fun _ => 0) i) i ((bt N wd i 0 : Nat) : Int))) 25 W wr) := ⟨by
        rw [fl_congr .i64 256 (h' := pt (fun i => ((bt N wd i wd : Nat) : Int)) (fun _ => 0) i) (fun j _ => by
          unfold upd pt
          by_cases e : j = i
          · rw [if_pos e, if_neg (by omega)]; unfold bt; rw [Nat.pow_zero, Nat.mod_one]; rfl
          · rw [if_neg e])]
        exact A0.out⟩
      clear hiw2 A0
      go_wp2_with fail
      go_loopw [13] (fun v wr => ∃ k : Nat, k ≤ wd ∧ v = .int .i64 (k : Int) ∧ Away (At (w.heap.size + 1) (FL .i64 256 (upd (pt (fun i => ((bt N wd i wd : Nat) : Int)) (fun _ => 0) i) i ((bt N wd i k : Nat) : Int))) 25 W wr)) (fun v _ => wd - (intOf v).toNat)
      case atStart => exact ⟨0, Nat.zero_le _, rfl, A00⟩
      case round =>
        clear A00
        obtain ⟨k, hk, rfl, A0⟩ := hrel
        by_cases hklt : k < wd
        · have hkz : (k : Int) < (wd : Int) := by omega
          obtain ⟨m, hm⟩ : ∃ m, iw + k = m := ⟨_, rfl⟩
          obtain ⟨j, hj⟩ : ∃ j, m / 8 = j := ⟨_, rfl⟩
          obtain ⟨r, hr⟩ : ∃ r, m % 8 = r := ⟨_, rfl⟩
          have hjs : j < s.size := by omega
          obtain ⟨β, hβ⟩ : ∃ β, (bys s).getD j 0 = β := ⟨_, rfl⟩
          have hβ8 : β < 256 := by
            rw [← hβ, List.getD_eq_getElem?_getD, List.getElem?_eq_getElem (by rw [bys_length]; exact hjs)]
            exact bys_lt s _ (List.getElem_mem _)
          have hidx := byte_of s j β hjs hβ
          obtain ⟨y, hy⟩ : ∃ y, β / 2 ^ r = y := ⟨_, rfl⟩
          have hyx : y ≤ β := by rw [← hy]; exact Nat.div_le_self _ _
          obtain ⟨b, hb⟩ : ∃ b, y % 2 = b := ⟨_, rfl⟩
          have hb2 : b < 2 := by omega
          have hbN : N / 2 ^ m % 2 = b := by
            have h9 := byte_bit s m (by rw [hj]; exact hjs)
            rw [hj, hr, hβ, hy, hb, HN.out] at h9
            exact h9.symm
          obtain ⟨a, ha⟩ : ∃ a, bt N wd i k = a := ⟨_, rfl⟩
          have ha2 : a < 2 ^ k := by rw [← ha]; exact Nat.mod_lt _ (Nat.two_pow_pos _)
          have hk23 : 2 ^ k ≤ 2 ^ 23 := Nat.pow_le_pow_right (by decide) (by omega)
          obtain ⟨c, hc⟩ : ∃ c, b * 2 ^ k = c := ⟨_, rfl⟩
          have hcl : c ≤ 2 ^ 23 := by
            rw [← hc]
            have h2 : b * 2 ^ k ≤ 1 * 2 ^ k := Nat.mul_le_mul_right _ (by omega)
            omega
          have V := or_i64 a c (by omega) (by omega)
          have hac : a ||| c = bt N wd i (k + 1) := by
            rw [← hc, or_add a b k ha2, bt_succ, ha, Hiw.out, hm, hbN]
          rw [hac] at V
          obtain ⟨v, hv⟩ : ∃ v, bt N wd i (k + 1) = v := ⟨_, rfl⟩
          rw [hv] at V
          have fm : (iw : Int) + (k : Int) = (m : Int) := by omega
          have fmw : IntKind.i64.wrap ((iw : Int) + (k : Int)) = (m : Int) := by rw [fm, IntKind.wrap_i64]; omega
          have fj : (m : Int).tdiv 8 = (j : Int) := by rw [Int.tdiv_eq_ediv_of_nonneg (by omega)]; omega
          have fjw : IntKind.i64.wrap ((m : Int).tdiv 8) = (j : Int) := by rw [fj, IntKind.wrap_i64]; omega
          have fjw2 : IntKind.i64.wrap (j : Int) = (j : Int) := by rw [IntKind.wrap_i64]; omega
          have fcw2 : IntKind.i64.wrap (c : Int) = (c : Int) := by rw [IntKind.wrap_i64]; omega
          have fr : (m : Int).tmod 8 = (r : Int) := by rw [Int.tmod_eq_emod_of_nonneg (by omega)]; omega
          have fku : IntKind.u64.wrap (k : Int) = (k : Int) := by rw [IntKind.wrap_u64]; omega
          have fru : IntKind.u64.wrap (r : Int) = (r : Int) := by rw [IntKind.wrap_u64]; omega
          have fy : (β : Int) / 2 ^ r = (y : Int) := by rw [← hy]; simp
          have fand := and_u8 y (by omega)
          rw [hb] at fand
          have fbw : IntKind.i64.wrap (b : Int) = (b : Int) := by rw [IntKind.wrap_i64]; omega
          have fc : (b : Int) * 2 ^ k = (c : Int) := by rw [← hc, Int.natCast_mul, Int.natCast_pow]; rfl
          have fcw : IntKind.i64.wrap ((b : Int) * 2 ^ k) = (c : Int) := by rw [fc, IntKind.wrap_i64]; omega
          have ca : wr.cell? ⟨w.heap.size + 1, i, none⟩ = some (.int .i64 (a : Int)) := by
            rw [← ha]
            have h9 := fl_at A0.out.row i hlt
            unfold upd at h9
            rw [if_pos rfl] at h9
            exact h9
          have hk63 : k ≤ 63 := by omega
          have hr63 : r ≤ 7 := by omega
          have Hv := Away.mk hv
          clear hm hj hr hy hb hβ hc hv ha hbN hac
          go_wp2_with fail
          refine still_tail 18 (by kernel_rfl) (by kernel_rfl) ?_
          simp only [List.take_succ_cons, List.take_zero, List.drop_succ_cons, List.drop_zero]
          repeat still_step
          refine wpStill_nil ?_
          have A1 : Away (At (w.heap.size + 1) (FL .i64 256 (upd (pt (fun i => ((bt N wd i wd : Nat) : Int)) (fun _ => 0) i) i ((bt N wd i k : Nat) : Int))) 25 W wr.drew) := ⟨at_drew A0.out⟩
          clear ca fm fmw fj fjw fjw2 fcw2 fr fku fru fy fand fbw fc fcw V A0 hidx
          with_reducible refine wpList_put2 A1 rfl _ _ _ rfl rfl ?_
          refine ⟨_, _, _, rfl, rfl, rfl, by rw [fl_size]; exact hlt, ?_⟩
          intro wn HR
          rw [fl_set, fl_congr .i64 256 (h' := upd (pt (fun i => ((bt N wd i wd : Nat) : Int)) (fun _ => 0) i) i ((bt N wd i (k + 1) : Nat) : Int)) (fun j _ => by
            unfold upd
            by_cases e : j = i
            · rw [if_pos e, if_pos e, Hv.out]
            · rw [if_neg e, if_neg e, if_neg e])] at HR
          go_wp2_with fail
          go_roundw
          case rel => exact ⟨k + 1, by omega, by go_num, HR⟩
          case measure => simp [intOf]; omega
        · obtain rfl : k = wd := by omega
          have A1 : Away (At (w.heap.size + 1) (FL .i64 256 (pt (fun i => ((bt N k i k : Nat) : Int)) (fun _ => 0) (i + 1))) 25 W wr) := ⟨by
            rw [← pt_upd (fun i => ((bt N k i k : Nat) : Int)) (fun _ => 0) i _ rfl]; exact A0.out⟩
          clear A0
          go_wp2_with fail
          go_roundw
          case rel => exact ⟨i + 1, by omega, by go_num, A1⟩
          case measure => simp [intOf]; omega
    · obtain rfl : i = 256 := by omega
      simp only [Int.cast_ofNat_Int]
      rw [fl_all, HR.out] at A0
      have Hrow := Away.mk A0.out.row
      have Hres : Away (wr.heap[w.heap.size]? = some (.cells z 25 (0, 0))) := ⟨A0.out.other (by omega) (by omega) R0.out⟩
      have HB : Away (Below w.heap.size w wr) := ⟨BW.out.trans (A0.out.below (by omega) (by omega))⟩
      clear A0
      go_wp2_with (first
        | (refine wpList_load_row rfl 25 _ rfl (w.heap.size + 1) rfl 25 R (0, 0) _ Hrow.out Tryd.underlying25 rfl Ri.out ?_)
        | (refine wpList_store_row rfl 25 _ _ rfl w.heap.size R rfl rfl 25 _ Hres.out Ri.out Rz.out Ro.out ?_))
      refine bodyPost_ret_by (v := .agg R) (results_cell_row rfl _ _ w.heap.size 25 _ (0, 0) _ rfl (setRow_heap _ _ _ _ _ _ Hres.out) Tryd.underlying25 rfl Ri.out) rfl ?_
      exact ⟨rfl, HB.out.trans (below_setRow _ _ _ (Nat.le_refl _))⟩
end Go.Proofs.YtdlolhilmhlklaaDoor.rbitc
