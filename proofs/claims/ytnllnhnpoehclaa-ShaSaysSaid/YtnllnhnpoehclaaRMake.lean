/-
  What the reference's Make returns: all tables as the document asks; memory that was there before stays as it was. Conditions: none.
-/
import Derived.Test.YtnllnhnpoehclaaMake
import Derived.Test.YtnllnhnpoehclaaRRoot
import Derived.Test.YtnllnhnpoehclaaRPrimes
namespace Go.Proofs.Ytnllnhnpoehclaa.rmake
open Go.RowKit
open Go.Proofs.Ytnllnhnpoehclaa.tabm Go.Proofs.Ytnllnhnpoehclaa.tabd Go.Proofs.Ytnllnhnpoehclaa.primm Go.Proofs.Ytnllnhnpoehclaa.tabt Go.Proofs.Ytnllnhnpoehclaa.arr Go.Proofs.Ytnllnhnpoehclaa.tabv Go.Proofs.Ytnllnhnpoehclaa.built Go.Proofs.Ytnllnhnpoehclaa.primes
open Go.Proofs.Ytnllnhnpoehclaa.make (Pc pc_of rootV_2 rootV_3)
open Go.Proofs.Ytnllnhnpoehclaa.root (rootV)

/-- the tables' block as it is laid: nothing is written yet -/
theorem ms_zero {w : World} {Z : Array Value} (hZ : Z.size = 465) : Ms 33 w (w.heap.size + 1) (fun _ => False) ((w.alloc (.cells Z 33)).alloc (.cells Z 33)) := by
  have hg := heap_at (w.alloc (.cells Z 33)) (.cells Z 33) (w.heap.size + 1) (by simp)
  have hc : ∀ i, i < 465 → ((w.alloc (.cells Z 33)).alloc (.cells Z 33)).cell? ⟨w.heap.size + 1, i, none⟩ = Z[i]? := fun i _ => cell_of_row _ _ i Z _ (0, 0) hg
  exact ⟨⟨Z, hZ, by rw [heap_past _ _ _ (by simp), heap_at _ _ _ rfl]⟩, fun i hi => ⟨⟨Z[i], by rw [hc i hi, Array.getElem?_eq_getElem (by omega)]⟩, frozen_of_row _ _ i Z _ hg⟩, fun i hi hS => hS.elim, ⟨by omega, by simp⟩, ((Below.refl _ _).alloc (Nat.le_refl _) _).alloc (by simp) _⟩
theorem ms_there {T : TypeId} {w wr : World} {g : Nat} {S : Nat → Prop} (h : Ms T w g S wr) (o n : Nat) (ho : o + n ≤ 465) : wr.there g o n := fun j hj => by
  obtain ⟨⟨v, hv⟩, hf⟩ := h.th (o + j) (by omega)
  exact ⟨by rw [hv]; rfl, hf⟩
theorem rv_all : ∀ j (hj : j < (LK .u64 (rl 168)).toList.length), (LK .u64 (rl 168)).toList[j] = tv (160 + j) := by
  intro j hj
  have hj2 : j < 24 := by rw [Array.length_toList, lk_size, rl_length] at hj; exact hj
  rw [lk_list, tv_rounds j hj2]
theorem uv_all : ∀ j (hj : j < (LK .i64 (tl 24)).toList.length), (LK .i64 (tl 24)).toList[j] = tv (184 + j) := by
  intro j hj
  have hj2 : j < 25 := by rw [Array.length_toList, lk_size, tl_length] at hj; exact hj
  rw [lk_list, tv_turns j hj2]
def Q1 (k i : Nat) : Prop := (72 ≤ i ∧ i < 72 + k) ∨ (i < 64 ∧ i < k) ∨ (152 ≤ i ∧ i < 160 ∧ i < 152 + k) ∨ (64 ≤ i ∧ i < 72 ∧ i < 64 + k)
def Q2 (k i : Nat) : Prop := i < 209 + k

set_option maxRecDepth 100000 in
set_option maxHeartbeats 4000000 in
theorem make_any (w : World) :
    Calls Try.prog 8 #[] w fun e w' => e = .returned (.agg TA) ∧ Below w.heap.size w w' := by
  obtain ⟨hz, hsize⟩ := zero_of_info infoT
  obtain ⟨Z, HZ⟩ := ex_eq TZ
  rw [HZ.out] at hz
  have HZs : Away (Z.size = 465) := ⟨by rw [← HZ.out]; exact tz_size⟩
  have Hsize := Away.mk hsize
  clear hsize
  obtain ⟨R, HR⟩ := ex_eq (LK .u64 (rl 168))
  obtain ⟨U, HU⟩ := ex_eq (LK .i64 (tl 24))
  have Rs : Away (R.size = 24) := ⟨by rw [← HR.out, lk_size, rl_length]⟩
  have Us : Away (U.size = 25) := ⟨by rw [← HU.out, lk_size, tl_length]⟩
  have Ro : Away (R.all (·.oneCell') = true) := ⟨by rw [← HR.out]; exact lk_one _ _⟩
  have Uo : Away (U.all (·.oneCell') = true) := ⟨by rw [← HU.out]; exact lk_one _ _⟩
  have Rv : Away (∀ j (hj : j < R.toList.length), R.toList[j] = tv (160 + j)) := ⟨by rw [← HR.out]; exact rv_all⟩
  have Uv : Away (∀ j (hj : j < U.toList.length), U.toList[j] = tv (184 + j)) := ⟨by rw [← HU.out]; exact uv_all⟩
  have hms := ms_zero (w := w) HZs.out
  have Hms := Away.mk hms
  clear hms
  go_enter Try.func8, Try.ntmps8
  go_wp2_with fail
  clear hz
  refine (rprimes_any 80 _).mono ?_
  rintro e w5 ⟨v, rfl, hh⟩
  obtain ⟨gp, cap, rfl, hpc, hcap⟩ := pc_of (n := 80) (g := w.heap.size + 1) (by decide) (by decide) hh (by simp)
  have Hms5 : Away (Ms 33 w (w.heap.size + 1) (Q1 0) w5) := ⟨(Hms.out.call hh.2).mono (by unfold Q1; omega)⟩
  have Hpc := Away.mk hpc
  obtain ⟨g, Hg⟩ := ex_eq (w.heap.size + 1)
  rw [Hg.out] at Hms5 Hpc ⊢
  clear hh hpc Hms
  go_wp2_with fail
  go_loopw [7] (fun i wr => ∃ k : Nat, k ≤ 80 ∧ i = .int .i64 k ∧ Away (Ms 33 w g (Q1 k) wr) ∧ Away (Pc gp 80 g wr)) (fun i _ => 80 - (intOf i).toNat)
  case atStart => exact ⟨0, by decide, rfl, Hms5, Hpc⟩
  case round =>
    obtain ⟨k, hk, rfl, Hm, Hp⟩ := hrel
    clear Hms5 Hpc
    by_cases hlt : k < 80
    · skip
      have hpk := Hp.out.cs k hlt
      have Hr := Away.mk (rootV_3 k)
      have Hr2 := Away.mk (rootV_2 k)
      have V72 := Away.mk (tv_large k hlt)
      have V0 := Away.mk (tv_small k)
      have V152 := Away.mk (tv_lstart k)
      have V64 := Away.mk (tv_sstart k)
      have hra := r3_lt k
      have hrb := r2_lt k
      obtain ⟨q, hq⟩ : ∃ q, ph.getD k 0 = q := ⟨_, rfl⟩
      rw [hq] at hpk Hr Hr2
      obtain ⟨a, ha⟩ : ∃ a, r3 k = a := ⟨_, rfl⟩
      obtain ⟨b, hb⟩ : ∃ b, r2 k = b := ⟨_, rfl⟩
      rw [ha] at Hr V72 V0 hra
      rw [hb] at Hr2 V152 V64 hrb
      clear hq ha hb
      go_wp2_with fail
      refine (rroot.root_any q 3 _).mono ?_
      rintro e w6 ⟨rfl, hb6⟩
      rw [Hr.out]
      have Hm6 := Away.mk (Hm.out.call hb6)
      have Hp6 := Away.mk ((Hp.out.call hb6).set (72 + k) (.int .u64 (a : Int)))
      obtain ⟨⟨old, hold⟩, hfz⟩ := Hm6.out.th (72 + k) (by omega)
      have Hs1 := Away.mk (Hm6.out.set (72 + k) (by omega) V72.out.symm)
      have hn1 := World.cell?_setCell_same w6 ⟨g, 72 + k, none⟩ (.int .u64 (a : Int)) hold
      clear hb6 hpk hlt
      by_cases h64 : k < 64
      · obtain ⟨⟨old2, hold2⟩, hfz2⟩ := Hm6.out.th k (by omega)
        have hn2 : (w6.setCell ⟨g, 72 + k, none⟩ (.int .u64 (a : Int))).cell? ⟨g, k, none⟩ = some old2 := by
          rw [World.cell?_setCell_other _ _ _ _ (by intro e2; injection e2; omega)]; exact hold2
        have Hs2 := Away.mk (Hs1.out.set k (by omega) (v := .int .u32 ((a : Int) / 4294967296)) (by rw [V0.out h64]; exact val_int (by omega)))
        have Hp7 := Away.mk (Hp6.out.set k (.int .u32 ((a : Int) / 4294967296)))
        by_cases h8 : k < 8
        · go_wp2_with fail
          refine (rroot.root_any q 2 _).mono ?_
          rintro e w7 ⟨rfl, hb7⟩
          rw [Hr2.out]
          have Hm7 := Away.mk (Hs2.out.call hb7)
          have Hp8 := Away.mk (((Hp7.out.call hb7).set (152 + k) (.int .u64 (b : Int))).set (64 + k) (.int .u32 ((b : Int) / 4294967296)))
          clear hold hfz hn1 hold2 hfz2 hn2 hb7
          obtain ⟨⟨old3, hold3⟩, hfz3⟩ := Hm7.out.th (152 + k) (by omega)
          obtain ⟨⟨old4, hold4⟩, hfz4⟩ := Hm7.out.th (64 + k) (by omega)
          have hn3 := World.cell?_setCell_same w7 ⟨g, 152 + k, none⟩ (.int .u64 (b : Int)) hold3
          have hn4 : (w7.setCell ⟨g, 152 + k, none⟩ (.int .u64 (b : Int))).cell? ⟨g, 64 + k, none⟩ = some old4 := by
            rw [World.cell?_setCell_other _ _ _ _ (by intro e2; injection e2; omega)]; exact hold4
          have Hs4 := Away.mk ((Hm7.out.set (152 + k) (by omega) (V152.out h8).symm).set (64 + k) (by omega) (v := .int .u32 ((b : Int) / 4294967296)) (by rw [V64.out h8]; exact val_int (by omega)))
          go_wp2_with fail
          go_roundw
          case rel => exact ⟨k + 1, by omega, by go_num, ⟨Hs4.out.mono (by unfold Q1; omega)⟩, Hp8⟩
          case measure => simp [intOf]; omega
        · go_wp2_with fail
          go_roundw
          case rel => exact ⟨k + 1, by omega, by go_num, ⟨Hs2.out.mono (by unfold Q1; omega)⟩, Hp7⟩
          case measure => simp [intOf]; omega
      · have h8 : ¬ k < 8 := by omega
        go_wp2_with fail
        go_roundw
        case rel => exact ⟨k + 1, by omega, by go_num, ⟨Hs1.out.mono (by unfold Q1; omega)⟩, Hp6⟩
        case measure => simp [intOf]; omega
    · obtain rfl : k = 80 := by omega
      have Hm2 := Hm
      clear Hm Hp
      go_wp2_with fail
      refine (rounds.rrounds_any _).mono ?_
      rintro e w6 ⟨rfl, hb6⟩
      rw [HR.out]
      have Hm6 := Away.mk (Hm2.out.call hb6)
      have Hs6 := Away.mk (Hm6.out.sets 160 R.toList (by rw [Array.length_toList, Rs.out]; decide) Rv.out)
      have ht6 := ms_there Hm6.out 160 24 (by decide)
      clear hb6 Hm2
      go_wp2_with (refine wpList_store_mid rfl 29 _ _ rfl g 160 R rfl rfl (by rw [Rs.out]; exact ht6) (by rw [Rs.out]; exact rounds.zrounds) Ro.out ?_)
      refine (turns.rturns_any _).mono ?_
      rintro e w7 ⟨rfl, hb7⟩
      rw [HU.out]
      have Hm7 := Away.mk (Hs6.out.call hb7)
      have Hs7 := Away.mk (Hm7.out.sets 184 U.toList (by rw [Array.length_toList, Us.out]; decide) Uv.out)
      have ht7 := ms_there Hm7.out 184 25 (by decide)
      rw [show U.toList.length = 25 by rw [Array.length_toList, Us.out], show R.toList.length = 24 by rw [Array.length_toList, Rs.out]] at Hs7
      clear hb7 Hm6 ht6
      go_wp2_with (refine wpList_store_mid rfl 30 _ _ rfl g 184 U rfl rfl (by rw [Us.out]; exact ht7) (by rw [Us.out]; exact turns.zturns) Uo.out ?_)
      have Hm8 : Away (Ms 33 w g (Q2 0) (w7.setCells g 184 U.toList)) := ⟨Hs7.out.mono (by unfold Q1 Q2; omega)⟩
      clear Hm7 Hs6 Hs7 ht7
      go_loopw [49] (fun i wr => ∃ k : Nat, k ≤ 256 ∧ i = .int .i64 k ∧ Away (Ms 33 w g (Q2 k) wr)) (fun i _ => 256 - (intOf i).toNat)
      case atStart => exact ⟨0, by decide, rfl, Hm8⟩
      case round =>
        clear Hm8
        obtain ⟨k, hk, rfl, Hm⟩ := hrel
        by_cases hlt : k < 256
        · have hrl := rv_lt k hlt
          have hzt : Away (pw 1753 (rv k) = zt k) := ⟨rfl⟩
          have hvz : Away (tv (209 + k) = .int .i64 ((zt k : Nat) : Int)) := ⟨by rw [tv_zetas k hlt, zl_get 256 k hlt (by decide)]⟩
          obtain ⟨⟨old, hold⟩, hfz⟩ := Hm.out.th (209 + k) (by omega)
          have Hs := Away.mk (Hm.out.set (209 + k) (by omega) hvz.out.symm)
          obtain ⟨r, Hr⟩ := ex_eq (rv k)
          rw [Hr.out] at hrl hzt
          go_wp2_with fail
          refine (zetas.mirrored_any k _ hlt).mono ?_
          rintro e w9 ⟨rfl, rfl⟩
          rw [Hr.out]
          go_wp2_with fail
          refine (power.rpower_nn 1753 r _ (by decide) (by omega)).mono ?_
          rintro e w9 ⟨rfl, rfl⟩
          rw [hzt.out]
          go_wp2_with fail
          go_roundw
          case rel => exact ⟨k + 1, by omega, by go_num, ⟨Hs.out.mono (by unfold Q2; omega)⟩⟩
          case measure => simp [intOf]; omega
        · obtain rfl : k = 256 := by omega
          have hall : ∀ i, i < 465 → Q2 256 i := by unfold Q2; omega
          have hrg := Hm.out.range hall
          obtain ⟨Z0, hZ0, hz0⟩ := Hm.out.z
          have HZ0 := Away.mk hZ0
          have Hb := Away.mk Hm.out.be
          obtain ⟨T, HT⟩ := ex_eq TA
          have Hts : Away (T.size = 465) := ⟨by rw [← HT.out]; exact ta_size⟩
          have Hto : Away (T.all (·.oneCell') = true) := ⟨by rw [← HT.out]; exact ta_one⟩
          rw [HT.out] at hrg
          clear hall Hm hZ0
          go_wp2_with (first | (refine wpList_load_mid rfl 33 _ rfl g 0 rfl T.toList _ hrg Try.underlying33 rfl (by rw [Array.length_toList, Hts.out]; exact Hsize.out) ?_) | (refine wpList_store_row rfl 33 _ _ rfl _ T rfl (by simp [go_sem]) 33 _ hz0 (by rw [Hts.out]; exact Hsize.out) (by rw [Hts.out]; exact HZ0.out) Hto.out ?_))
          refine bodyPost_ret_by (v := .agg T) (results_cell_row rfl _ _ w.heap.size 33 _ (0, 0) _ rfl (setRow_heap _ _ _ _ _ _ hz0) Try.underlying33 rfl (by rw [Hts.out]; exact Hsize.out)) rfl ?_
          exact ⟨by rw [HT.out], Hb.out.trans (below_setRow _ _ _ (Nat.le_refl _))⟩
end Go.Proofs.Ytnllnhnpoehclaa.rmake
