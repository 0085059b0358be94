/-
  What tables.Rounds and the reference's Rounds return: Keccak's round constants, as the document computes them; memory that was there before stays as it was. Conditions: none.
-/
import Derived.Test.YthfljfampfioaaaProg
import Derived.Test.YthfljfampfioaaaArr
import Derived.Test.YthfljfampfioaaaTabT
import Derived.Test.YthfljfampfioaaaPower
import Derived.RegionTactic
import Derived.BigRegion
namespace Go.Proofs.Ythfljfampfioaaa.rounds
open Go.RowKit
open Go.Proofs.Ythfljfampfioaaa.tabt Go.Proofs.Ythfljfampfioaaa.arr
open Go.Proofs.Ythfljfampfioaaa.power (and_one_i64)

theorem zrounds : (Try.prog.info? 29).map (·.size) = some 24 := by kernel_rfl

set_option maxHeartbeats 1000000 in
theorem rounds_any (w : World) :
    Calls Try.prog 40 #[] w fun e w' => e = .returned (.agg (LK .u64 (rl 168))) ∧ Below w.heap.size w w' := by
  go_enter Try.func40, Try.ntmps40
  go_wp2_with fail
  obtain ⟨Z, HZ⟩ := ex_eq (#[.int .u64 0, .int .u64 0, .int .u64 0, .int .u64 0, .int .u64 0, .int .u64 0, .int .u64 0, .int .u64 0, .int .u64 0, .int .u64 0, .int .u64 0, .int .u64 0, .int .u64 0, .int .u64 0, .int .u64 0, .int .u64 0, .int .u64 0, .int .u64 0, .int .u64 0, .int .u64 0, .int .u64 0, .int .u64 0, .int .u64 0, .int .u64 0] : Array Value)
  rw [HZ.out]
  have HZ2 : Away (Z = LK .u64 (rl 0)) := ⟨HZ.out.symm⟩
  clear HZ
  go_loopw [2, 5] (fun r i wr => ∃ (k n R : Nat) (ds : List Nat), k ≤ 24 ∧ i = .int .i64 k ∧ r = .int .i64 R ∧ Away (lf (7 * k) = R) ∧ Away (rl (7 * k) = ds) ∧ wr = ((w.alloc (.cells Z 29)).alloc (.cells (LK .u64 ds) 29)).drewN n) (fun _ i _ => 24 - (intOf i).toNat)
  case atStart => exact ⟨0, 0, 1, rl 0, by decide, rfl, rfl, ⟨rfl⟩, ⟨rfl⟩, by rw [← HZ2.out]; rfl⟩
  case round =>
    obtain ⟨k, n, R, ds, hk, rfl, rfl, Hr, Hds, rfl⟩ := hrel
    by_cases hlt : k < 24
    · go_wp2_with fail
      go_loopw [2, 8] (fun r i wr => ∃ (m n R : Nat) (ds : List Nat), m ≤ 7 ∧ i = .int .i64 m ∧ r = .int .i64 R ∧ Away (lf (7 * k + m) = R) ∧ Away (rl (7 * k + m) = ds) ∧ wr = ((w.alloc (.cells Z 29)).alloc (.cells (LK .u64 ds) 29)).drewN n) (fun _ i _ => 7 - (intOf i).toNat)
      case atStart => exact ⟨0, n, R, ds, by decide, rfl, rfl, Hr, Hds, rfl⟩
      case round =>
        clear Hr Hds
        obtain ⟨m, n, R, ds, hm, rfl, rfl, Hr, Hds, rfl⟩ := hrel
        by_cases hlm : m < 7
        · have hR := lf_le (7 * k + m)
          have hd := rl_getD_lt (7 * k + m) k
          have hlen := rl_length (7 * k + m)
          have ho := rl_odd (i := k) hlm
          have he := rl_even (t := 7 * k + m)
          have hov := lf_over (t := 7 * k + m)
          have hin := lf_in (t := 7 * k + m)
          rw [Hr.out] at hR ho he hov hin
          rw [Hds.out] at hd hlen ho he
          have hxor := xor_tab R hR
          have hget := lk_get .u64 ds k (by rw [hlen]; exact hlt)
          obtain ⟨d, hdd⟩ : ∃ d, ds.getD k 0 = d := ⟨_, rfl⟩
          rw [hdd] at hd hget ho
          have HO := Away.mk ho
          have HE := Away.mk he
          have HV := Away.mk hov
          have HN := Away.mk hin
          have Hlen := Away.mk hlen
          clear ho he hov hin hdd hlen
          have hset := lk_setI .u64 ds k (d ||| 2 ^ (2 ^ m - 1)) _ (or_shift d m hd hlm)
          by_cases h1 : R % 2 = 1
          · have hb : (bits .and .i64 (R : Int) 1 == 1) = true := by rw [and_one_i64 R (by omega)]; exact beq_iff_eq.2 (by omega)
            have Hn := Away.mk (HO.out h1)
            clear h1
            by_cases h2 : 255 < R * 2
            · have Hv := Away.mk (HV.out h2)
              go_wp2_with fail
              go_region
              go_wp2_with fail
              go_roundw
              case rel => exact ⟨m + 1, n + 1, _, _, by omega, by go_num, rfl, Hv, Hn, rfl⟩
              case measure => simp [intOf]; omega
            · have Hv := Away.mk (HN.out h2)
              go_wp2_with fail
              go_region
              go_wp2_with fail
              go_roundw
              case rel => exact ⟨m + 1, n + 1, _, _, by omega, by go_num, val_int (by omega), Hv, Hn, rfl⟩
              case measure => simp [intOf]; omega
          · have hb : (bits .and .i64 (R : Int) 1 == 1) = false := by rw [and_one_i64 R (by omega)]; exact beq_eq_false_iff_ne.2 (by omega)
            have Hn := Away.mk (HE.out h1)
            clear h1
            by_cases h2 : 255 < R * 2
            · have Hv := Away.mk (HV.out h2)
              go_wp2_with fail
              go_roundw
              case rel => exact ⟨m + 1, n, _, _, by omega, by go_num, rfl, Hv, Hn, rfl⟩
              case measure => simp [intOf]; omega
            · have Hv := Away.mk (HN.out h2)
              go_wp2_with fail
              go_roundw
              case rel => exact ⟨m + 1, n, _, _, by omega, by go_num, val_int (by omega), Hv, Hn, rfl⟩
              case measure => simp [intOf]; omega
        · obtain rfl : m = 7 := by omega
          have Hr2 : Away (lf (7 * (k + 1)) = R) := ⟨Hr.out⟩
          have Hd2 : Away (rl (7 * (k + 1)) = ds) := ⟨Hds.out⟩
          go_wp2_with fail
          go_roundw
          case rel => exact ⟨k + 1, n, R, ds, by omega, by go_num, rfl, Hr2, Hd2, rfl⟩
          case measure => simp [intOf]; omega
    · obtain rfl : k = 24 := by omega
      have Hd2 : Away (ds = rl 168) := ⟨Hds.out.symm⟩
      have hsz : (LK .u64 ds).size = 24 := by rw [lk_size, Hd2.out, rl_length]
      have hzs : Z.size = 24 := by rw [HZ2.out, lk_size, rl_length]
      obtain ⟨W, hW⟩ : ∃ W, ((w.alloc (.cells Z 29)).alloc (.cells (LK .u64 ds) 29)).drewN n = W := ⟨_, rfl⟩
      have hb : Below w.heap.size w W := by rw [← hW]; exact below_drewN (((Below.refl _ _).alloc (Nat.le_refl _) _).alloc (by simp) _) n
      have g1 : W.heap[w.heap.size + 1]? = some (.cells (LK .u64 ds) 29 (0, 0)) := by rw [← hW, heap_drewN', heap_at _ _ _ (by simp)]
      have g0 : W.heap[w.heap.size]? = some (.cells Z 29 (0, 0)) := by rw [← hW, heap_drewN', heap_past _ _ _ (by simp), heap_at _ _ _ rfl]
      rw [hW]
      have Hsz := Away.mk hsz
      have Hzs := Away.mk hzs
      clear hW hsz hzs
      go_wp2_with (first | (refine wpList_load_row rfl 29 _ rfl _ rfl 29 _ (0, 0) _ g1 Try.underlying29 rfl (by rw [Hsz.out]; exact zrounds) ?_) | (refine wpList_store_row rfl 29 _ _ rfl _ _ rfl rfl 29 _ g0 (by rw [Hsz.out]; exact zrounds) (by rw [Hsz.out]; exact Hzs.out) (lk_one _ _) ?_))
      refine bodyPost_ret_by (v := .agg (LK .u64 ds)) (results_cell_row rfl _ _ w.heap.size 29 _ (0, 0) _ rfl (setRow_heap _ _ _ _ _ _ g0) Try.underlying29 rfl (by rw [Hsz.out]; exact zrounds)) rfl ?_
      exact ⟨by rw [Hd2.out], hb.trans (below_setRow _ _ _ (Nat.le_refl _))⟩

set_option maxHeartbeats 1000000 in
theorem rrounds_any (w : World) :
    Calls Try.prog 22 #[] w fun e w' => e = .returned (.agg (LK .u64 (rl 168))) ∧ Below w.heap.size w w' := by
  go_enter Try.func22, Try.ntmps22
  go_wp2_with fail
  obtain ⟨Z, HZ⟩ := ex_eq (#[.int .u64 0, .int .u64 0, .int .u64 0, .int .u64 0, .int .u64 0, .int .u64 0, .int .u64 0, .int .u64 0, .int .u64 0, .int .u64 0, .int .u64 0, .int .u64 0, .int .u64 0, .int .u64 0, .int .u64 0, .int .u64 0, .int .u64 0, .int .u64 0, .int .u64 0, .int .u64 0, .int .u64 0, .int .u64 0, .int .u64 0, .int .u64 0] : Array Value)
  rw [HZ.out]
  have HZ2 : Away (Z = LK .u64 (rl 0)) := ⟨HZ.out.symm⟩
  clear HZ
  go_loopw [2, 5] (fun r i wr => ∃ (k n R : Nat) (ds : List Nat), k ≤ 24 ∧ i = .int .i64 k ∧ r = .int .i64 R ∧ Away (lf (7 * k) = R) ∧ Away (rl (7 * k) = ds) ∧ wr = ((w.alloc (.cells Z 29)).alloc (.cells (LK .u64 ds) 29)).drewN n) (fun _ i _ => 24 - (intOf i).toNat)
  case atStart => exact ⟨0, 0, 1, rl 0, by decide, rfl, rfl, ⟨rfl⟩, ⟨rfl⟩, by rw [← HZ2.out]; rfl⟩
  case round =>
    obtain ⟨k, n, R, ds, hk, rfl, rfl, Hr, Hds, rfl⟩ := hrel
    by_cases hlt : k < 24
    · go_wp2_with fail
      go_loopw [2, 8] (fun r i wr => ∃ (m n R : Nat) (ds : List Nat), m ≤ 7 ∧ i = .int .i64 m ∧ r = .int .i64 R ∧ Away (lf (7 * k + m) = R) ∧ Away (rl (7 * k + m) = ds) ∧ wr = ((w.alloc (.cells Z 29)).alloc (.cells (LK .u64 ds) 29)).drewN n) (fun _ i _ => 7 - (intOf i).toNat)
      case atStart => exact ⟨0, n, R, ds, by decide, rfl, rfl, Hr, Hds, rfl⟩
      case round =>
        clear Hr Hds
        obtain ⟨m, n, R, ds, hm, rfl, rfl, Hr, Hds, rfl⟩ := hrel
        by_cases hlm : m < 7
        · have hR := lf_le (7 * k + m)
          have hd := rl_getD_lt (7 * k + m) k
          have hlen := rl_length (7 * k + m)
          have ho := rl_odd (i := k) hlm
          have he := rl_even (t := 7 * k + m)
          have hov := lf_over (t := 7 * k + m)
          have hin := lf_in (t := 7 * k + m)
          rw [Hr.out] at hR ho he hov hin
          rw [Hds.out] at hd hlen ho he
          have hxor := xor_tab R hR
          have hget := lk_get .u64 ds k (by rw [hlen]; exact hlt)
          obtain ⟨d, hdd⟩ : ∃ d, ds.getD k 0 = d := ⟨_, rfl⟩
          rw [hdd] at hd hget ho
          have HO := Away.mk ho
          have HE := Away.mk he
          have HV := Away.mk hov
          have HN := Away.mk hin
          have Hlen := Away.mk hlen
          clear ho he hov hin hdd hlen
          have hset := lk_setI .u64 ds k (d ||| 2 ^ (2 ^ m - 1)) _ (or_shift d m hd hlm)
          by_cases h1 : R % 2 = 1
          · have hb : (bits .and .i64 (R : Int) 1 == 1) = true := by rw [and_one_i64 R (by omega)]; exact beq_iff_eq.2 (by omega)
            have Hn := Away.mk (HO.out h1)
            clear h1
            by_cases h2 : 255 < R * 2
            · have Hv := Away.mk (HV.out h2)
              have hov : (bits .and .i64 ((R : Int) * 2) 256 != 0) = true := by rw [and_tab R hR]; exact decide_eq_true h2
              go_wp2_with fail
              go_wp2_with fail
              go_roundw
              case rel => exact ⟨m + 1, n, _, _, by omega, by go_num, rfl, Hv, Hn, rfl⟩
              case measure => simp [intOf]; omega
            · have Hv := Away.mk (HN.out h2)
              have hov : (bits .and .i64 ((R : Int) * 2) 256 != 0) = false := by rw [and_tab R hR]; exact decide_eq_false h2
              go_wp2_with fail
              go_wp2_with fail
              go_roundw
              case rel => exact ⟨m + 1, n, _, _, by omega, by go_num, val_int (by omega), Hv, Hn, rfl⟩
              case measure => simp [intOf]; omega
          · have hb : (bits .and .i64 (R : Int) 1 == 1) = false := by rw [and_one_i64 R (by omega)]; exact beq_eq_false_iff_ne.2 (by omega)
            have Hn := Away.mk (HE.out h1)
            clear h1
            by_cases h2 : 255 < R * 2
            · have Hv := Away.mk (HV.out h2)
              have hov : (bits .and .i64 ((R : Int) * 2) 256 != 0) = true := by rw [and_tab R hR]; exact decide_eq_true h2
              go_wp2_with fail
              go_roundw
              case rel => exact ⟨m + 1, n, _, _, by omega, by go_num, rfl, Hv, Hn, rfl⟩
              case measure => simp [intOf]; omega
            · have Hv := Away.mk (HN.out h2)
              have hov : (bits .and .i64 ((R : Int) * 2) 256 != 0) = false := by rw [and_tab R hR]; exact decide_eq_false h2
              go_wp2_with fail
              go_roundw
              case rel => exact ⟨m + 1, n, _, _, by omega, by go_num, val_int (by omega), Hv, Hn, rfl⟩
              case measure => simp [intOf]; omega
        · obtain rfl : m = 7 := by omega
          have Hr2 : Away (lf (7 * (k + 1)) = R) := ⟨Hr.out⟩
          have Hd2 : Away (rl (7 * (k + 1)) = ds) := ⟨Hds.out⟩
          go_wp2_with fail
          go_roundw
          case rel => exact ⟨k + 1, n, R, ds, by omega, by go_num, rfl, Hr2, Hd2, rfl⟩
          case measure => simp [intOf]; omega
    · obtain rfl : k = 24 := by omega
      have Hd2 : Away (ds = rl 168) := ⟨Hds.out.symm⟩
      have hsz : (LK .u64 ds).size = 24 := by rw [lk_size, Hd2.out, rl_length]
      have hzs : Z.size = 24 := by rw [HZ2.out, lk_size, rl_length]
      obtain ⟨W, hW⟩ : ∃ W, ((w.alloc (.cells Z 29)).alloc (.cells (LK .u64 ds) 29)).drewN n = W := ⟨_, rfl⟩
      have hb : Below w.heap.size w W := by rw [← hW]; exact below_drewN (((Below.refl _ _).alloc (Nat.le_refl _) _).alloc (by simp) _) n
      have g1 : W.heap[w.heap.size + 1]? = some (.cells (LK .u64 ds) 29 (0, 0)) := by rw [← hW, heap_drewN', heap_at _ _ _ (by simp)]
      have g0 : W.heap[w.heap.size]? = some (.cells Z 29 (0, 0)) := by rw [← hW, heap_drewN', heap_past _ _ _ (by simp), heap_at _ _ _ rfl]
      rw [hW]
      have Hsz := Away.mk hsz
      have Hzs := Away.mk hzs
      clear hW hsz hzs
      go_wp2_with (first | (refine wpList_load_row rfl 29 _ rfl _ rfl 29 _ (0, 0) _ g1 Try.underlying29 rfl (by rw [Hsz.out]; exact zrounds) ?_) | (refine wpList_store_row rfl 29 _ _ rfl _ _ rfl rfl 29 _ g0 (by rw [Hsz.out]; exact zrounds) (by rw [Hsz.out]; exact Hzs.out) (lk_one _ _) ?_))
      refine bodyPost_ret_by (v := .agg (LK .u64 ds)) (results_cell_row rfl _ _ w.heap.size 29 _ (0, 0) _ rfl (setRow_heap _ _ _ _ _ _ g0) Try.underlying29 rfl (by rw [Hsz.out]; exact zrounds)) rfl ?_
      exact ⟨by rw [Hd2.out], hb.trans (below_setRow _ _ _ (Nat.le_refl _))⟩
end Go.Proofs.Ythfljfampfioaaa.rounds
