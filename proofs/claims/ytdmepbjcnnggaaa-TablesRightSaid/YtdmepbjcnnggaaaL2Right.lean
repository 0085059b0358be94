/-
  The statement TablesRight (P2.6): whether tables of which one number is turned are right agrees with the reference, and the tables themselves are right. Conditions: none; for every input that the form speaks of.
-/
import Derived.Test.YtdmepbjcnnggaaaRows
import Derived.Test.YtdmepbjcnnggaaaAwake2
import Derived.Test.YtdmepbjcnnggaaaRight
import Derived.ProofKit
import Derived.OpenShut
import Derived.Carry
namespace Go.Proofs.Ytdmepbjcnnggaaa.lright
open Go.ChangeShapes Go.WideShapes Go.ChangeAt Go.RowKit
open Go.Proofs.Ytdmepbjcnnggaaa.tabv Go.Proofs.Ytdmepbjcnnggaaa.arr Go.Proofs.Ytdmepbjcnnggaaa.eqs Go.Proofs.Ytdmepbjcnnggaaa.built Go.Proofs.Ytdmepbjcnnggaaa.right
set_option linter.unusedVariables false
theorem own : ownKnob Try.prog.godebug = none := by kernel_rfl
theorem laidOut : laidOutB Try.prog = true := by kernel_rfl


theorem rem_of (i : Int) (c : Nat) (hc : 0 < c) (hc2 : c < 1000) : ∃ r : Nat, r < c ∧ (IntKind.u64.wrap i) % (c : Int) = (r : Int) ∧ (IntKind.u64.wrap i).tmod (c : Int) = (r : Int) := by
  have h : 0 ≤ IntKind.u64.wrap i := by rw [IntKind.wrap_u64]; omega
  have h2 := Int.emod_nonneg (IntKind.u64.wrap i) (show (c : Int) ≠ 0 by omega)
  have h3 := Int.emod_lt_of_pos (IntKind.u64.wrap i) (show (0 : Int) < c by omega)
  refine ⟨((IntKind.u64.wrap i) % (c : Int)).toNat, by omega, by omega, ?_⟩
  rw [Int.tmod_eq_emod_of_nonneg h]; omega

set_option maxRecDepth 100000 in
set_option maxHeartbeats 4000000 in
theorem case_0 (i k : Int) (u r : Nat) (w : World) (hu : u < 18446744073709551616) (e6 : (IntKind.u64.wrap i) % 6 = 0) (e62 : (IntKind.u64.wrap i).tmod 6 = 0) (hr : r < 64) (er : (IntKind.u64.wrap k) % 64 = (r : Int)) (er2 : (IntKind.u64.wrap k).tmod 64 = (r : Int)) :
    Calls Try.prog 4 #[.int .i64 i, .int .i64 k, .int .u64 (u : Int)] w fun e w' => e = .returned (.bool true) ∧ Below w.heap.size w w' := by
  obtain ⟨hz, hsize⟩ := zero_of_info infoT
  obtain ⟨Z, HZ⟩ := ex_eq TZ
  rw [HZ.out] at hz
  have HZs : Away (Z.size = 465) := ⟨by rw [← HZ.out]; exact tz_size⟩
  have Hsize := Away.mk hsize
  have HU := Away.mk hu
  clear hsize hu
  obtain ⟨T, HT⟩ := ex_eq TA
  have HTs : Away (T.size = 465) := ⟨by rw [← HT.out]; exact ta_size⟩
  have HTo : Away (T.all (·.oneCell') = true) := ⟨by rw [← HT.out]; exact ta_one⟩
  have HTg : Away (eqs.Good T) := ⟨by rw [← HT.out]; exact good_ta⟩
  obtain ⟨a, ha⟩ := HTg.out.2 (r) (by omega)
  rw [show kd (r) = .u32 by unfold kd; rw [if_pos (by omega)]] at ha
  have ha' := ha
  go_enter Try.func4, Try.ntmps4
  go_wp2_with fail
  refine (rmake_T HT.out _).mono ?_
  rintro e w1 ⟨rfl, hb1⟩
  have Hb1 := Away.mk hb1
  clear hb1
  go_wp2_with (refine wpList_store_new rfl 39 _ _ rfl _ rfl rfl (by rw [HTs.out]; exact Hsize.out) (by rw [HTs.out]; exact HZs.out) HTo.out rfl ?_)
  clear hz
  obtain ⟨X, HX⟩ := ex_eq (T.setIfInBounds (r) (.int .u32 (bits .xor .u32 a ((u : Int) % 4294967296))))
  have HXg : Away (eqs.Good X) := ⟨by rw [← HX.out]; exact good_set HTg.out (r) .u32 _ (by unfold kd; rw [if_pos (by omega)])⟩
  have HXs := Away.mk HXg.out.1
  rw [HX.out]
  obtain ⟨q, hq1, -⟩ := eq_tables HXg.out HTg.out
  obtain ⟨q2, hq2, hq3⟩ := eq_tables HTg.out HTg.out
  obtain rfl : q2 = true := hq3 rfl
  have HQ1 := Away.mk hq1
  have HQ2 := Away.mk hq2
  obtain ⟨W, hW⟩ : ∃ W, w1.alloc (.cells X 39) = W := ⟨_, rfl⟩
  have hg : W.heap[w1.heap.size]? = some (.cells X 39 (0, 0)) := by rw [← hW, heap_at _ _ _ rfl]
  have Hb : Away (Below w.heap.size w W) := ⟨by rw [← hW]; exact Hb1.out.alloc Hb1.out.size _⟩
  rw [hW]
  clear hW hq1 hq2 hq3 ha ha'
  refine wp_region_quiet_below (by kernel_rfl) (by kernel_rfl) ?_
  refine wpQuiet_load rfl 39 _ rfl _ rfl 39 _ _ (fun w' hC => heap_regrown hg hC) Try.underlying39 rfl (by rw [HXs.out]; exact sizeT) ?_
  quiet_step (exact Calls.regrown_of (right_any X T q _ HT.out HXs.out HQ1.out))
  refine wpQuiet_load rfl 39 _ rfl _ rfl 39 _ _ (fun w' hC => heap_regrown hg hC) Try.underlying39 rfl (by rw [HXs.out]; exact sizeT) ?_
  quiet_step (exact Calls.regrown_of (rright_any X T q _ HT.out HXs.out HQ1.out))
  quiet_step (skip)
  quiet_step (skip)
  quiet_step (exact Calls.regrown_of (make_T HT.out _))
  quiet_step (exact Calls.regrown_of (right_any T T true _ HT.out HTs.out HQ2.out))
  quiet_step (skip)
  quiet_step (skip)
  quiet_step (exact Calls.regrown_of (awake.awake_any _))
  quiet_step (skip)
  quiet_step (skip)
  refine wpQuiet_nil ?_
  intro w3 hC
  have hb3 : Away (Below W.heap.size W w3) := ⟨by
    obtain ⟨pp, rfl⟩ := hC
    exact below_regrown _ _ _⟩
  clear hC hg
  go_wp2_with fail
  go_ret
  exact ⟨rfl, Hb.out.trans (hb3.out.mono Hb.out.size)⟩

set_option maxRecDepth 100000 in
set_option maxHeartbeats 4000000 in
theorem case_1 (i k : Int) (u r : Nat) (w : World) (hu : u < 18446744073709551616) (e6 : (IntKind.u64.wrap i) % 6 = 1) (e62 : (IntKind.u64.wrap i).tmod 6 = 1) (hr : r < 80) (er : (IntKind.u64.wrap k) % 80 = (r : Int)) (er2 : (IntKind.u64.wrap k).tmod 80 = (r : Int)) :
    Calls Try.prog 4 #[.int .i64 i, .int .i64 k, .int .u64 (u : Int)] w fun e w' => e = .returned (.bool true) ∧ Below w.heap.size w w' := by
  obtain ⟨hz, hsize⟩ := zero_of_info infoT
  obtain ⟨Z, HZ⟩ := ex_eq TZ
  rw [HZ.out] at hz
  have HZs : Away (Z.size = 465) := ⟨by rw [← HZ.out]; exact tz_size⟩
  have Hsize := Away.mk hsize
  have HU := Away.mk hu
  clear hsize hu
  obtain ⟨T, HT⟩ := ex_eq TA
  have HTs : Away (T.size = 465) := ⟨by rw [← HT.out]; exact ta_size⟩
  have HTo : Away (T.all (·.oneCell') = true) := ⟨by rw [← HT.out]; exact ta_one⟩
  have HTg : Away (eqs.Good T) := ⟨by rw [← HT.out]; exact good_ta⟩
  obtain ⟨a, ha⟩ := HTg.out.2 (72 + r) (by omega)
  rw [show kd (72 + r) = .u64 by unfold kd; rw [if_neg (by omega), if_pos (by omega)]] at ha
  have ha' := ha
  go_enter Try.func4, Try.ntmps4
  go_wp2_with fail
  refine (rmake_T HT.out _).mono ?_
  rintro e w1 ⟨rfl, hb1⟩
  have Hb1 := Away.mk hb1
  clear hb1
  go_wp2_with (refine wpList_store_new rfl 39 _ _ rfl _ rfl rfl (by rw [HTs.out]; exact Hsize.out) (by rw [HTs.out]; exact HZs.out) HTo.out rfl ?_)
  clear hz
  obtain ⟨X, HX⟩ := ex_eq (T.setIfInBounds (72 + r) (.int .u64 (bits .xor .u64 a (u : Int))))
  have HXg : Away (eqs.Good X) := ⟨by rw [← HX.out]; exact good_set HTg.out (72 + r) .u64 _ (by unfold kd; rw [if_neg (by omega), if_pos (by omega)])⟩
  have HXs := Away.mk HXg.out.1
  rw [HX.out]
  obtain ⟨q, hq1, -⟩ := eq_tables HXg.out HTg.out
  obtain ⟨q2, hq2, hq3⟩ := eq_tables HTg.out HTg.out
  obtain rfl : q2 = true := hq3 rfl
  have HQ1 := Away.mk hq1
  have HQ2 := Away.mk hq2
  obtain ⟨W, hW⟩ : ∃ W, w1.alloc (.cells X 39) = W := ⟨_, rfl⟩
  have hg : W.heap[w1.heap.size]? = some (.cells X 39 (0, 0)) := by rw [← hW, heap_at _ _ _ rfl]
  have Hb : Away (Below w.heap.size w W) := ⟨by rw [← hW]; exact Hb1.out.alloc Hb1.out.size _⟩
  rw [hW]
  clear hW hq1 hq2 hq3 ha ha'
  refine wp_region_quiet_below (by kernel_rfl) (by kernel_rfl) ?_
  refine wpQuiet_load rfl 39 _ rfl _ rfl 39 _ _ (fun w' hC => heap_regrown hg hC) Try.underlying39 rfl (by rw [HXs.out]; exact sizeT) ?_
  quiet_step (exact Calls.regrown_of (right_any X T q _ HT.out HXs.out HQ1.out))
  refine wpQuiet_load rfl 39 _ rfl _ rfl 39 _ _ (fun w' hC => heap_regrown hg hC) Try.underlying39 rfl (by rw [HXs.out]; exact sizeT) ?_
  quiet_step (exact Calls.regrown_of (rright_any X T q _ HT.out HXs.out HQ1.out))
  quiet_step (skip)
  quiet_step (skip)
  quiet_step (exact Calls.regrown_of (make_T HT.out _))
  quiet_step (exact Calls.regrown_of (right_any T T true _ HT.out HTs.out HQ2.out))
  quiet_step (skip)
  quiet_step (skip)
  quiet_step (exact Calls.regrown_of (awake.awake_any _))
  quiet_step (skip)
  quiet_step (skip)
  refine wpQuiet_nil ?_
  intro w3 hC
  have hb3 : Away (Below W.heap.size W w3) := ⟨by
    obtain ⟨pp, rfl⟩ := hC
    exact below_regrown _ _ _⟩
  clear hC hg
  go_wp2_with fail
  go_ret
  exact ⟨rfl, Hb.out.trans (hb3.out.mono Hb.out.size)⟩

set_option maxRecDepth 100000 in
set_option maxHeartbeats 4000000 in
theorem case_2 (i k : Int) (u r : Nat) (w : World) (hu : u < 18446744073709551616) (e6 : (IntKind.u64.wrap i) % 6 = 2) (e62 : (IntKind.u64.wrap i).tmod 6 = 2) (hr : r < 24) (er : (IntKind.u64.wrap k) % 24 = (r : Int)) (er2 : (IntKind.u64.wrap k).tmod 24 = (r : Int)) :
    Calls Try.prog 4 #[.int .i64 i, .int .i64 k, .int .u64 (u : Int)] w fun e w' => e = .returned (.bool true) ∧ Below w.heap.size w w' := by
  obtain ⟨hz, hsize⟩ := zero_of_info infoT
  obtain ⟨Z, HZ⟩ := ex_eq TZ
  rw [HZ.out] at hz
  have HZs : Away (Z.size = 465) := ⟨by rw [← HZ.out]; exact tz_size⟩
  have Hsize := Away.mk hsize
  have HU := Away.mk hu
  clear hsize hu
  obtain ⟨T, HT⟩ := ex_eq TA
  have HTs : Away (T.size = 465) := ⟨by rw [← HT.out]; exact ta_size⟩
  have HTo : Away (T.all (·.oneCell') = true) := ⟨by rw [← HT.out]; exact ta_one⟩
  have HTg : Away (eqs.Good T) := ⟨by rw [← HT.out]; exact good_ta⟩
  obtain ⟨a, ha⟩ := HTg.out.2 (160 + r) (by omega)
  rw [show kd (160 + r) = .u64 by unfold kd; rw [if_neg (by omega), if_pos (by omega)]] at ha
  have ha' := ha
  go_enter Try.func4, Try.ntmps4
  go_wp2_with fail
  refine (rmake_T HT.out _).mono ?_
  rintro e w1 ⟨rfl, hb1⟩
  have Hb1 := Away.mk hb1
  clear hb1
  go_wp2_with (refine wpList_store_new rfl 39 _ _ rfl _ rfl rfl (by rw [HTs.out]; exact Hsize.out) (by rw [HTs.out]; exact HZs.out) HTo.out rfl ?_)
  clear hz
  obtain ⟨X, HX⟩ := ex_eq (T.setIfInBounds (160 + r) (.int .u64 (bits .xor .u64 a (u : Int))))
  have HXg : Away (eqs.Good X) := ⟨by rw [← HX.out]; exact good_set HTg.out (160 + r) .u64 _ (by unfold kd; rw [if_neg (by omega), if_pos (by omega)])⟩
  have HXs := Away.mk HXg.out.1
  rw [HX.out]
  obtain ⟨q, hq1, -⟩ := eq_tables HXg.out HTg.out
  obtain ⟨q2, hq2, hq3⟩ := eq_tables HTg.out HTg.out
  obtain rfl : q2 = true := hq3 rfl
  have HQ1 := Away.mk hq1
  have HQ2 := Away.mk hq2
  obtain ⟨W, hW⟩ : ∃ W, w1.alloc (.cells X 39) = W := ⟨_, rfl⟩
  have hg : W.heap[w1.heap.size]? = some (.cells X 39 (0, 0)) := by rw [← hW, heap_at _ _ _ rfl]
  have Hb : Away (Below w.heap.size w W) := ⟨by rw [← hW]; exact Hb1.out.alloc Hb1.out.size _⟩
  rw [hW]
  clear hW hq1 hq2 hq3 ha ha'
  refine wp_region_quiet_below (by kernel_rfl) (by kernel_rfl) ?_
  refine wpQuiet_load rfl 39 _ rfl _ rfl 39 _ _ (fun w' hC => heap_regrown hg hC) Try.underlying39 rfl (by rw [HXs.out]; exact sizeT) ?_
  quiet_step (exact Calls.regrown_of (right_any X T q _ HT.out HXs.out HQ1.out))
  refine wpQuiet_load rfl 39 _ rfl _ rfl 39 _ _ (fun w' hC => heap_regrown hg hC) Try.underlying39 rfl (by rw [HXs.out]; exact sizeT) ?_
  quiet_step (exact Calls.regrown_of (rright_any X T q _ HT.out HXs.out HQ1.out))
  quiet_step (skip)
  quiet_step (skip)
  quiet_step (exact Calls.regrown_of (make_T HT.out _))
  quiet_step (exact Calls.regrown_of (right_any T T true _ HT.out HTs.out HQ2.out))
  quiet_step (skip)
  quiet_step (skip)
  quiet_step (exact Calls.regrown_of (awake.awake_any _))
  quiet_step (skip)
  quiet_step (skip)
  refine wpQuiet_nil ?_
  intro w3 hC
  have hb3 : Away (Below W.heap.size W w3) := ⟨by
    obtain ⟨pp, rfl⟩ := hC
    exact below_regrown _ _ _⟩
  clear hC hg
  go_wp2_with fail
  go_ret
  exact ⟨rfl, Hb.out.trans (hb3.out.mono Hb.out.size)⟩

set_option maxRecDepth 100000 in
set_option maxHeartbeats 4000000 in
theorem case_3 (i k : Int) (u r : Nat) (w : World) (hu : u < 18446744073709551616) (e6 : (IntKind.u64.wrap i) % 6 = 3) (e62 : (IntKind.u64.wrap i).tmod 6 = 3) (hr : r < 25) (er : (IntKind.u64.wrap k) % 25 = (r : Int)) (er2 : (IntKind.u64.wrap k).tmod 25 = (r : Int)) :
    Calls Try.prog 4 #[.int .i64 i, .int .i64 k, .int .u64 (u : Int)] w fun e w' => e = .returned (.bool true) ∧ Below w.heap.size w w' := by
  obtain ⟨hz, hsize⟩ := zero_of_info infoT
  obtain ⟨Z, HZ⟩ := ex_eq TZ
  rw [HZ.out] at hz
  have HZs : Away (Z.size = 465) := ⟨by rw [← HZ.out]; exact tz_size⟩
  have Hsize := Away.mk hsize
  have HU := Away.mk hu
  clear hsize hu
  obtain ⟨T, HT⟩ := ex_eq TA
  have HTs : Away (T.size = 465) := ⟨by rw [← HT.out]; exact ta_size⟩
  have HTo : Away (T.all (·.oneCell') = true) := ⟨by rw [← HT.out]; exact ta_one⟩
  have HTg : Away (eqs.Good T) := ⟨by rw [← HT.out]; exact good_ta⟩
  obtain ⟨a, ha⟩ := HTg.out.2 (184 + r) (by omega)
  rw [show kd (184 + r) = .i64 by unfold kd; rw [if_neg (by omega), if_neg (by omega)]] at ha
  have ha' := ha
  go_enter Try.func4, Try.ntmps4
  go_wp2_with fail
  refine (rmake_T HT.out _).mono ?_
  rintro e w1 ⟨rfl, hb1⟩
  have Hb1 := Away.mk hb1
  clear hb1
  go_wp2_with (refine wpList_store_new rfl 39 _ _ rfl _ rfl rfl (by rw [HTs.out]; exact Hsize.out) (by rw [HTs.out]; exact HZs.out) HTo.out rfl ?_)
  clear hz
  obtain ⟨X, HX⟩ := ex_eq (T.setIfInBounds (184 + r) (.int .i64 (bits .xor .i64 a (wrap64 (bits .and .u64 (u : Int) 63)))))
  have HXg : Away (eqs.Good X) := ⟨by rw [← HX.out]; exact good_set HTg.out (184 + r) .i64 _ (by unfold kd; rw [if_neg (by omega), if_neg (by omega)])⟩
  have HXs := Away.mk HXg.out.1
  rw [HX.out]
  obtain ⟨q, hq1, -⟩ := eq_tables HXg.out HTg.out
  obtain ⟨q2, hq2, hq3⟩ := eq_tables HTg.out HTg.out
  obtain rfl : q2 = true := hq3 rfl
  have HQ1 := Away.mk hq1
  have HQ2 := Away.mk hq2
  obtain ⟨W, hW⟩ : ∃ W, w1.alloc (.cells X 39) = W := ⟨_, rfl⟩
  have hg : W.heap[w1.heap.size]? = some (.cells X 39 (0, 0)) := by rw [← hW, heap_at _ _ _ rfl]
  have Hb : Away (Below w.heap.size w W) := ⟨by rw [← hW]; exact Hb1.out.alloc Hb1.out.size _⟩
  rw [hW]
  clear hW hq1 hq2 hq3 ha ha'
  refine wp_region_quiet_below (by kernel_rfl) (by kernel_rfl) ?_
  refine wpQuiet_load rfl 39 _ rfl _ rfl 39 _ _ (fun w' hC => heap_regrown hg hC) Try.underlying39 rfl (by rw [HXs.out]; exact sizeT) ?_
  quiet_step (exact Calls.regrown_of (right_any X T q _ HT.out HXs.out HQ1.out))
  refine wpQuiet_load rfl 39 _ rfl _ rfl 39 _ _ (fun w' hC => heap_regrown hg hC) Try.underlying39 rfl (by rw [HXs.out]; exact sizeT) ?_
  quiet_step (exact Calls.regrown_of (rright_any X T q _ HT.out HXs.out HQ1.out))
  quiet_step (skip)
  quiet_step (skip)
  quiet_step (exact Calls.regrown_of (make_T HT.out _))
  quiet_step (exact Calls.regrown_of (right_any T T true _ HT.out HTs.out HQ2.out))
  quiet_step (skip)
  quiet_step (skip)
  quiet_step (exact Calls.regrown_of (awake.awake_any _))
  quiet_step (skip)
  quiet_step (skip)
  refine wpQuiet_nil ?_
  intro w3 hC
  have hb3 : Away (Below W.heap.size W w3) := ⟨by
    obtain ⟨pp, rfl⟩ := hC
    exact below_regrown _ _ _⟩
  clear hC hg
  go_wp2_with fail
  go_ret
  exact ⟨rfl, Hb.out.trans (hb3.out.mono Hb.out.size)⟩

set_option maxRecDepth 100000 in
set_option maxHeartbeats 4000000 in
theorem case_4 (i k : Int) (u r : Nat) (w : World) (hu : u < 18446744073709551616) (e6 : (IntKind.u64.wrap i) % 6 = 4) (e62 : (IntKind.u64.wrap i).tmod 6 = 4) (hr : r < 256) (er : (IntKind.u64.wrap k) % 256 = (r : Int)) (er2 : (IntKind.u64.wrap k).tmod 256 = (r : Int)) :
    Calls Try.prog 4 #[.int .i64 i, .int .i64 k, .int .u64 (u : Int)] w fun e w' => e = .returned (.bool true) ∧ Below w.heap.size w w' := by
  obtain ⟨hz, hsize⟩ := zero_of_info infoT
  obtain ⟨Z, HZ⟩ := ex_eq TZ
  rw [HZ.out] at hz
  have HZs : Away (Z.size = 465) := ⟨by rw [← HZ.out]; exact tz_size⟩
  have Hsize := Away.mk hsize
  have HU := Away.mk hu
  clear hsize hu
  obtain ⟨T, HT⟩ := ex_eq TA
  have HTs : Away (T.size = 465) := ⟨by rw [← HT.out]; exact ta_size⟩
  have HTo : Away (T.all (·.oneCell') = true) := ⟨by rw [← HT.out]; exact ta_one⟩
  have HTg : Away (eqs.Good T) := ⟨by rw [← HT.out]; exact good_ta⟩
  obtain ⟨a, ha⟩ := HTg.out.2 (209 + r) (by omega)
  rw [show kd (209 + r) = .i64 by unfold kd; rw [if_neg (by omega), if_neg (by omega)]] at ha
  have ha' := ha
  go_enter Try.func4, Try.ntmps4
  go_wp2_with fail
  refine (rmake_T HT.out _).mono ?_
  rintro e w1 ⟨rfl, hb1⟩
  have Hb1 := Away.mk hb1
  clear hb1
  go_wp2_with (refine wpList_store_new rfl 39 _ _ rfl _ rfl rfl (by rw [HTs.out]; exact Hsize.out) (by rw [HTs.out]; exact HZs.out) HTo.out rfl ?_)
  clear hz
  obtain ⟨X, HX⟩ := ex_eq (T.setIfInBounds (209 + r) (.int .i64 (bits .xor .i64 a (wrap64 (bits .and .u64 (u : Int) 255)))))
  have HXg : Away (eqs.Good X) := ⟨by rw [← HX.out]; exact good_set HTg.out (209 + r) .i64 _ (by unfold kd; rw [if_neg (by omega), if_neg (by omega)])⟩
  have HXs := Away.mk HXg.out.1
  rw [HX.out]
  obtain ⟨q, hq1, -⟩ := eq_tables HXg.out HTg.out
  obtain ⟨q2, hq2, hq3⟩ := eq_tables HTg.out HTg.out
  obtain rfl : q2 = true := hq3 rfl
  have HQ1 := Away.mk hq1
  have HQ2 := Away.mk hq2
  obtain ⟨W, hW⟩ : ∃ W, w1.alloc (.cells X 39) = W := ⟨_, rfl⟩
  have hg : W.heap[w1.heap.size]? = some (.cells X 39 (0, 0)) := by rw [← hW, heap_at _ _ _ rfl]
  have Hb : Away (Below w.heap.size w W) := ⟨by rw [← hW]; exact Hb1.out.alloc Hb1.out.size _⟩
  rw [hW]
  clear hW hq1 hq2 hq3 ha ha'
  refine wp_region_quiet_below (by kernel_rfl) (by kernel_rfl) ?_
  refine wpQuiet_load rfl 39 _ rfl _ rfl 39 _ _ (fun w' hC => heap_regrown hg hC) Try.underlying39 rfl (by rw [HXs.out]; exact sizeT) ?_
  quiet_step (exact Calls.regrown_of (right_any X T q _ HT.out HXs.out HQ1.out))
  refine wpQuiet_load rfl 39 _ rfl _ rfl 39 _ _ (fun w' hC => heap_regrown hg hC) Try.underlying39 rfl (by rw [HXs.out]; exact sizeT) ?_
  quiet_step (exact Calls.regrown_of (rright_any X T q _ HT.out HXs.out HQ1.out))
  quiet_step (skip)
  quiet_step (skip)
  quiet_step (exact Calls.regrown_of (make_T HT.out _))
  quiet_step (exact Calls.regrown_of (right_any T T true _ HT.out HTs.out HQ2.out))
  quiet_step (skip)
  quiet_step (skip)
  quiet_step (exact Calls.regrown_of (awake.awake_any _))
  quiet_step (skip)
  quiet_step (skip)
  refine wpQuiet_nil ?_
  intro w3 hC
  have hb3 : Away (Below W.heap.size W w3) := ⟨by
    obtain ⟨pp, rfl⟩ := hC
    exact below_regrown _ _ _⟩
  clear hC hg
  go_wp2_with fail
  go_ret
  exact ⟨rfl, Hb.out.trans (hb3.out.mono Hb.out.size)⟩

set_option maxRecDepth 100000 in
set_option maxHeartbeats 4000000 in
theorem case_5 (i k : Int) (u r : Nat) (w : World) (hu : u < 18446744073709551616) (e6 : (IntKind.u64.wrap i) % 6 = 5) (e62 : (IntKind.u64.wrap i).tmod 6 = 5) (hr : r < 8) (er : (IntKind.u64.wrap k) % 8 = (r : Int)) (er2 : (IntKind.u64.wrap k).tmod 8 = (r : Int)) :
    Calls Try.prog 4 #[.int .i64 i, .int .i64 k, .int .u64 (u : Int)] w fun e w' => e = .returned (.bool true) ∧ Below w.heap.size w w' := by
  obtain ⟨hz, hsize⟩ := zero_of_info infoT
  obtain ⟨Z, HZ⟩ := ex_eq TZ
  rw [HZ.out] at hz
  have HZs : Away (Z.size = 465) := ⟨by rw [← HZ.out]; exact tz_size⟩
  have Hsize := Away.mk hsize
  have HU := Away.mk hu
  clear hsize hu
  obtain ⟨T, HT⟩ := ex_eq TA
  have HTs : Away (T.size = 465) := ⟨by rw [← HT.out]; exact ta_size⟩
  have HTo : Away (T.all (·.oneCell') = true) := ⟨by rw [← HT.out]; exact ta_one⟩
  have HTg : Away (eqs.Good T) := ⟨by rw [← HT.out]; exact good_ta⟩
  obtain ⟨a, ha⟩ := HTg.out.2 (152 + r) (by omega)
  rw [show kd (152 + r) = .u64 by unfold kd; rw [if_neg (by omega), if_pos (by omega)]] at ha
  have ha' := ha
  go_enter Try.func4, Try.ntmps4
  go_wp2_with fail
  refine (rmake_T HT.out _).mono ?_
  rintro e w1 ⟨rfl, hb1⟩
  have Hb1 := Away.mk hb1
  clear hb1
  go_wp2_with (refine wpList_store_new rfl 39 _ _ rfl _ rfl rfl (by rw [HTs.out]; exact Hsize.out) (by rw [HTs.out]; exact HZs.out) HTo.out rfl ?_)
  clear hz
  obtain ⟨X, HX⟩ := ex_eq (T.setIfInBounds (152 + r) (.int .u64 (bits .xor .u64 a (u : Int))))
  have HXg : Away (eqs.Good X) := ⟨by rw [← HX.out]; exact good_set HTg.out (152 + r) .u64 _ (by unfold kd; rw [if_neg (by omega), if_pos (by omega)])⟩
  have HXs := Away.mk HXg.out.1
  rw [HX.out]
  obtain ⟨q, hq1, -⟩ := eq_tables HXg.out HTg.out
  obtain ⟨q2, hq2, hq3⟩ := eq_tables HTg.out HTg.out
  obtain rfl : q2 = true := hq3 rfl
  have HQ1 := Away.mk hq1
  have HQ2 := Away.mk hq2
  obtain ⟨W, hW⟩ : ∃ W, w1.alloc (.cells X 39) = W := ⟨_, rfl⟩
  have hg : W.heap[w1.heap.size]? = some (.cells X 39 (0, 0)) := by rw [← hW, heap_at _ _ _ rfl]
  have Hb : Away (Below w.heap.size w W) := ⟨by rw [← hW]; exact Hb1.out.alloc Hb1.out.size _⟩
  rw [hW]
  clear hW hq1 hq2 hq3 ha ha'
  refine wp_region_quiet_below (by kernel_rfl) (by kernel_rfl) ?_
  refine wpQuiet_load rfl 39 _ rfl _ rfl 39 _ _ (fun w' hC => heap_regrown hg hC) Try.underlying39 rfl (by rw [HXs.out]; exact sizeT) ?_
  quiet_step (exact Calls.regrown_of (right_any X T q _ HT.out HXs.out HQ1.out))
  refine wpQuiet_load rfl 39 _ rfl _ rfl 39 _ _ (fun w' hC => heap_regrown hg hC) Try.underlying39 rfl (by rw [HXs.out]; exact sizeT) ?_
  quiet_step (exact Calls.regrown_of (rright_any X T q _ HT.out HXs.out HQ1.out))
  quiet_step (skip)
  quiet_step (skip)
  quiet_step (exact Calls.regrown_of (make_T HT.out _))
  quiet_step (exact Calls.regrown_of (right_any T T true _ HT.out HTs.out HQ2.out))
  quiet_step (skip)
  quiet_step (skip)
  quiet_step (exact Calls.regrown_of (awake.awake_any _))
  quiet_step (skip)
  quiet_step (skip)
  refine wpQuiet_nil ?_
  intro w3 hC
  have hb3 : Away (Below W.heap.size W w3) := ⟨by
    obtain ⟨pp, rfl⟩ := hC
    exact below_regrown _ _ _⟩
  clear hC hg
  go_wp2_with fail
  go_ret
  exact ⟨rfl, Hb.out.trans (hb3.out.mono Hb.out.size)⟩

theorem walk (i k u : Int) (w : World) (w0 : (Lit.int .i64 i).wf = true) (w1 : (Lit.int .i64 k).wf = true) (w2 : (Lit.int .u64 u).wf = true) : Calls Try.prog 4 #[.int .i64 i, .int .i64 k, .int .u64 u] w fun e w' => e = .returned (.bool true) ∧ Below w.heap.size w w' := by
  have hu := bounds_u64 w2
  obtain ⟨m, rfl⟩ := Int.eq_ofNat_of_zero_le hu.1
  obtain ⟨c, hc, e6, e62⟩ := rem_of i 6 (by decide) (by decide)
  have hm : m < 18446744073709551616 := by omega
  obtain rfl | rfl | rfl | rfl | rfl | rfl : c = 0 ∨ c = 1 ∨ c = 2 ∨ c = 3 ∨ c = 4 ∨ c = 5 := by omega
  · obtain ⟨r, hr, e1, e2⟩ := rem_of k 64 (by decide) (by decide)
    exact case_0 i k m r w hm e6 e62 hr e1 e2
  · obtain ⟨r, hr, e1, e2⟩ := rem_of k 80 (by decide) (by decide)
    exact case_1 i k m r w hm e6 e62 hr e1 e2
  · obtain ⟨r, hr, e1, e2⟩ := rem_of k 24 (by decide) (by decide)
    exact case_2 i k m r w hm e6 e62 hr e1 e2
  · obtain ⟨r, hr, e1, e2⟩ := rem_of k 25 (by decide) (by decide)
    exact case_3 i k m r w hm e6 e62 hr e1 e2
  · obtain ⟨r, hr, e1, e2⟩ := rem_of k 256 (by decide) (by decide)
    exact case_4 i k m r w hm e6 e62 hr e1 e2
  · obtain ⟨r, hr, e1, e2⟩ := rem_of k 8 (by decide) (by decide)
    exact case_5 i k m r w hm e6 e62 hr e1 e2
/-! ### The row -/
set_option maxRecDepth 100000 in
theorem lifted (os : Os) (started : os.Started) (H : Type) (enc : TypeId × Value → H) :
    ReturnsInHanded {} Try.checked os 4 .any (Rows.tablesRightSpec.pre6 enc Try.prog Try.f4 Rows.tablesRightRow.domain false) (Rows.tablesRightSpec.post enc Try.prog Try.f4 false true false false) := by
  refine returnsInHanded_of_change (C := Try.checked) own started (by kernel_rfl) Try.func4
    (ChangeSpec.witness6 (enc := enc) (C := Try.checked) false ⟨#[], #[.int .i64 0, .int .i64 0, .int .u64 0], []⟩ 8 (by kernel_rfl) (by kernel_rfl) (by kernel_rfl) (by kernel_rfl)) ?_
  intro W base args ds gs before hval0 hW hcnd _
  have hval : ∀ (j : Nat) t v, Try.f4.params[j]? = some t → args[j]? = some v → Value.okWide Try.prog W .any base t v := hval0
  have hW' := hW
  have hlt := hW.lt
  obtain ⟨p, q, hA0, hV, rfl, hfz, hnd⟩ := hW
  have hA : DataW.TrodAll enc Try.prog W 0 (fun _ => true) true Try.f4.params.toList args.toList ds p := hA0
  rw [Try.params4] at hA hval
  obtain ⟨v0, vs0, d0, ds0, p0, q0, hargs, rfl, rfl, h0, r0⟩ := trodAll_cons hA
  obtain ⟨v1, vs1, d1, ds1, p1, q1, rfl, rfl, rfl, h1, r1⟩ := trodAll_cons r0
  obtain ⟨v2, vs2, d2, ds2, p2, q2, rfl, rfl, rfl, h2, r2⟩ := trodAll_cons r1
  obtain ⟨rfl, rfl, rfl⟩ := trodAll_nil r2
  obtain rfl : args = #[v0, v1, v2] := by cases args; simp_all
  obtain ⟨rfl, rfl⟩ := trodVars_none hV
  obtain ⟨a0, rfl, rfl, rfl, w0⟩ := open_int Try.underlying3 (hval 0 3 v0 rfl rfl) h0
  obtain ⟨a1, rfl, rfl, rfl, w1⟩ := open_int Try.underlying3 (hval 1 3 v1 rfl rfl) h1
  obtain ⟨a2, rfl, rfl, rfl, w2⟩ := open_int Try.underlying26 (hval 2 26 v2 rfl rfl) h2
  clear hA0 hval0
  refine (walk a0 a1 a2 W w0 w1 w2).mono fun e W' ⟨he, bel⟩ => ?_
  subst he
  exact ⟨_, rfl, _, _, _, [], _, [], hW', trodAll_mk1 (shut_bool Try.underlying4 _), (trodAll_cons_mk (Below.trod laidOut (by kernel_rfl) (of_decide_eq_true (by kernel_rfl)) h0 bel (fun x hx => by first | exact absurd hx (by simp) | exact hlt x (by simpa using hx) | exact hlt x (by simp; exact Or.inl hx) | exact hlt x (by simp; exact Or.inr hx) | exact hlt x (by simp; exact Or.inr (Or.inl hx)) | exact hlt x (by simp; exact Or.inr (Or.inr hx)))) (trodAll_cons_mk (Below.trod laidOut (by kernel_rfl) (of_decide_eq_true (by kernel_rfl)) h1 bel (fun x hx => by first | exact absurd hx (by simp) | exact hlt x (by simpa using hx) | exact hlt x (by simp; exact Or.inl hx) | exact hlt x (by simp; exact Or.inr hx) | exact hlt x (by simp; exact Or.inr (Or.inl hx)) | exact hlt x (by simp; exact Or.inr (Or.inr hx)))) (trodAll_cons_mk (Below.trod laidOut (by kernel_rfl) (of_decide_eq_true (by kernel_rfl)) h2 bel (fun x hx => by first | exact absurd hx (by simp) | exact hlt x (by simpa using hx) | exact hlt x (by simp; exact Or.inl hx) | exact hlt x (by simp; exact Or.inr hx) | exact hlt x (by simp; exact Or.inr (Or.inl hx)) | exact hlt x (by simp; exact Or.inr (Or.inr hx)))) trodAll_mk0))), rfl, bel.frame _, fun h => by cases h⟩

theorem over : Rows.tablesRightRow.holds Try.pinned (OpenSpec.ofChange Rows.tablesRightSpec) :=
  OpenClaim.holds_of_wide 4 Try.f4 rfl rfl rfl rfl rfl rfl rfl ⟨rfl, rfl, rfl, rfl, rfl⟩ rfl rfl rfl rfl rfl (by kernel_rfl) Try.func4 (by kernel_rfl)
    (of_decide_eq_true (by kernel_rfl)) (by unfold Func.isWrapper; first | (rw [if_pos (by decide +kernel)]; kernel_rfl) | (rw [if_neg (by decide +kernel)]; exact ⟨rfl, rfl⟩))
    (fun os started H enc _ => lifted os started H enc)

theorem proved : Rows.TablesRightSaid :=
  over
end Go.Proofs.Ytdmepbjcnnggaaa.lright
