/-
  The law package's own look at sha ('awake') returns true. Conditions: none.
-/
import Derived.Test.YtnllnhnpoehclaaTabs
import Derived.Test.YtnllnhnpoehclaaMake
namespace Go.Proofs.Ytnllnhnpoehclaa.awake3
open Go.RowKit
open Go.Proofs.Ytnllnhnpoehclaa.oct Go.Proofs.Ytnllnhnpoehclaa.mem Go.Proofs.Ytnllnhnpoehclaa.arr Go.Proofs.Ytnllnhnpoehclaa.tabv Go.Proofs.Ytnllnhnpoehclaa.built Go.Proofs.Ytnllnhnpoehclaa.sham Go.Proofs.Ytnllnhnpoehclaa.hashs Go.Proofs.Ytnllnhnpoehclaa.tabs Go.Proofs.Ytnllnhnpoehclaa.pad

theorem blocks55 (w : World) : Calls Try.prog 20 #[.int .i64 55, .int .i64 64] w fun e w' => e = .returned (.int .i64 1) ∧ w' = w := blocks64 55 w (by decide)
theorem blocks56 (w : World) : Calls Try.prog 20 #[.int .i64 56, .int .i64 64] w fun e w' => e = .returned (.int .i64 2) ∧ w' = w := blocks64 56 w (by decide)
theorem head4 (l : List UInt8) (x : List UInt8) (h : l.take 4 = x) : (⟨l.toArray⟩ : ByteArray).extract 0 4 = ⟨x.toArray⟩ := by
  subst h
  apply ByteArray.ext
  simp

set_option maxRecDepth 100000 in
set_option maxHeartbeats 1000000 in
theorem awake_any (w : World) :
    Calls Try.prog 7 #[] w fun e w' => e = .returned (.bool true) ∧ Below w.heap.size w w' := by
  obtain ⟨hz, hsize⟩ := zero_of_info infoT
  obtain ⟨Z, HZ⟩ := ex_eq TZ
  rw [HZ.out] at hz
  have HZs : Away (Z.size = 465) := ⟨by rw [← HZ.out]; exact tz_size⟩
  have Hsize := Away.mk hsize
  clear hsize
  have htf := tf_doc
  obtain ⟨T, HT⟩ := ex_eq TA
  rw [HT.out] at htf
  have HTs : Away (T.size = 465) := ⟨by rw [← HT.out]; exact ta_size⟩
  have HTo : Away (T.all (·.oneCell') = true) := ⟨by rw [← HT.out]; exact ta_one⟩
  have HTF := Away.mk htf
  clear htf
  obtain ⟨A, hA⟩ : ∃ A : ByteArray, A = ⟨(hs32 k32 s32 [97, 98, 99]).toArray⟩ := ⟨_, rfl⟩
  have hA4 : A.extract 0 4 = ⟨#[186, 120, 22, 191]⟩ := by rw [hA, head4 _ _ abc32]
  have hAs : A.size = 32 := by rw [hA]; exact hs_length32 _ _ _
  obtain ⟨B, hB⟩ : ∃ B : ByteArray, B = ⟨(hs64 k64 s64 [97, 98, 99]).toArray⟩ := ⟨_, rfl⟩
  have hB4 : B.extract 0 4 = ⟨#[221, 175, 53, 161]⟩ := by rw [hB, head4 _ _ abc64]
  have hBs : B.size = 64 := by rw [hB]; exact hs_length64 _ _ _
  obtain ⟨D, hD⟩ : ∃ D : ByteArray, D = ⟨(hs32 k32 s32 (dg [])).toArray⟩ := ⟨_, rfl⟩
  have hDs : D.size = 32 := by rw [hD]; exact hs_length32 _ _ _
  have H1 : Away (∀ w1 : World, Calls Try.prog 9 #[.agg T, .string ⟨#[97, 98, 99]⟩] w1 fun e w' => e = .returned (.string A) ∧ Below w1.heap.size w1 w') := ⟨fun w1 => by rw [hA]; exact whole32 T k32 k64 s32 s64 ⟨#[97, 98, 99]⟩ w1 HTF.out (by decide)⟩
  have H2 : Away (∀ w1 : World, Calls Try.prog 11 #[.agg T, .string ⟨#[97, 98, 99]⟩] w1 fun e w' => e = .returned (.string B) ∧ Below w1.heap.size w1 w') := ⟨fun w1 => by rw [hB]; exact whole64 T k32 k64 s32 s64 ⟨#[97, 98, 99]⟩ w1 HTF.out (by decide)⟩
  have H3 : Away (∀ w1 : World, Calls Try.prog 13 #[.agg T, .string ⟨#[]⟩] w1 fun e w' => e = .returned (.string D) ∧ Below w1.heap.size w1 w') := ⟨fun w1 => by rw [hD]; exact digest_any T k32 k64 s32 s64 ⟨#[]⟩ w1 HTF.out (by decide)⟩
  have Hmk : Away (∀ w1 : World, Calls Try.prog 15 #[] w1 fun e w' => e = .returned (.agg T) ∧ Below w1.heap.size w1 w') := ⟨fun w1 => by rw [← HT.out]; exact make.make_any w1⟩
  clear hA hB hD HT HZ
  go_enter Try.func7, Try.ntmps7
  go_wp2_with fail
  refine (Hmk.out _).mono ?_
  rintro e w1 ⟨rfl, hb1⟩
  go_wp2_with (refine wpList_store_new rfl 33 _ _ rfl _ rfl rfl (by rw [HTs.out]; exact Hsize.out) (by rw [HTs.out]; exact HZs.out) HTo.out rfl ?_)
  clear hz
  obtain ⟨W, hW⟩ : ∃ W, w1.alloc (.cells T 33) = W := ⟨_, rfl⟩
  have hg : W.heap[w1.heap.size]? = some (.cells T 33 (0, 0)) := by rw [← hW, heap_at _ _ _ rfl]
  have Hb : Away (Below w.heap.size w W) := ⟨by rw [← hW]; exact hb1.alloc hb1.size _⟩
  have hsW : W.heap.size = w1.heap.size + 1 := by rw [← hW]; simp
  have Hg := Away.mk hg
  rw [hW]
  clear hW hb1 hg
  refine wp_region_quiet_below (by kernel_rfl) (by kernel_rfl) ?_
  refine wpQuiet_load rfl 33 _ rfl _ rfl 33 _ _ (fun w' hC => heap_regrown Hg.out hC) Try.underlying33 rfl (by rw [HTs.out]; exact sizeT) ?_
  quiet_step (exact Calls.regrown_of (H1.out _))
  refine wpQuiet_load rfl 33 _ rfl _ rfl 33 _ _ (fun w' hC => heap_regrown Hg.out hC) Try.underlying33 rfl (by rw [HTs.out]; exact sizeT) ?_
  quiet_step (exact Calls.regrown_of (H2.out _))
  quiet_step (skip)
  quiet_step (skip)
  refine wpQuiet_nil ?_
  intro w3 hC
  have hb3 : Below W.heap.size W w3 := by
    obtain ⟨pp, rfl⟩ := hC
    exact below_regrown _ _ _
  have Hb3 := Away.mk hb3
  have Hg3 : Away (w3.heap[w1.heap.size]? = some (.cells T 33 (0, 0))) := ⟨(hb3.block _ (by omega)).trans Hg.out⟩
  clear hC hb3
  go_wp2_with fail
  refine (blocks55 _).mono ?_
  rintro e w4 ⟨rfl, rfl⟩
  go_wp2_with fail
  refine (blocks56 _).mono ?_
  rintro e w5 ⟨rfl, rfl⟩
  go_wp2_with fail
  refine wp_load_row 33 _ rfl w1.heap.size rfl 33 _ (0, 0) _ Hg3.out Try.underlying33 rfl (by rw [HTs.out]; exact sizeT) ?_
  go_wp2_with fail
  refine (H3.out _).mono ?_
  rintro e w6 ⟨rfl, hb6⟩
  have Hb6 : Away (Below w.heap.size w w6) := ⟨Hb.out.trans ((Hb3.out.mono Hb.out.size).trans (hb6.mono (Nat.le_trans Hb.out.size Hb3.out.size)))⟩
  clear hb6
  go_wp2_with fail
  go_ret
  exact ⟨rfl, Hb6.out⟩
end Go.Proofs.Ytnllnhnpoehclaa.awake3
