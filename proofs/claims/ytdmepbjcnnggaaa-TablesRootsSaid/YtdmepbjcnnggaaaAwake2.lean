/-
  The law package's own look at tables ('awake') returns true. Conditions: none.
-/
import Derived.Test.YtdmepbjcnnggaaaMake
namespace Go.Proofs.Ytdmepbjcnnggaaa.awake
open Go.RowKit
open Go.Proofs.Ytdmepbjcnnggaaa.tabd Go.Proofs.Ytdmepbjcnnggaaa.primm Go.Proofs.Ytdmepbjcnnggaaa.tabt Go.Proofs.Ytdmepbjcnnggaaa.arr Go.Proofs.Ytdmepbjcnnggaaa.tabv Go.Proofs.Ytdmepbjcnnggaaa.built Go.Proofs.Ytdmepbjcnnggaaa.primes Go.Proofs.Ytdmepbjcnnggaaa.make

theorem root_2_3 : rootN 2 3 = 23241441160490167842 := rootN_is 2 3 _ (by decide) (by decide) (by decide) (by decide)
theorem root_2_2 : rootN 2 2 = 26087635650665564424 := rootN_is 2 2 _ (by decide) (by decide) (by decide) (by decide)
theorem root_3_3 : rootN 3 3 = 26604808713878332877 := rootN_is 3 3 _ (by decide) (by decide) (by decide) (by decide)
theorem tv0 : tv 0 = .int .u32 1116352408 := by
  rw [tv_small 0 (by decide)]; unfold r3
  rw [show ph.getD 0 0 = 2 from rfl, root_2_3]; rfl
theorem tv64 : tv 64 = .int .u32 1779033703 := by
  rw [tv_sstart 0 (by decide)]; unfold r2
  rw [show ph.getD 0 0 = 2 from rfl, root_2_2]; rfl
theorem tv73 : tv 73 = .int .u64 8158064640168781261 := by
  rw [tv_large 1 (by decide)]; unfold r3
  rw [show ph.getD 1 0 = 3 from rfl, root_3_3]; rfl
theorem rl1 : (rl 168).getD 1 0 = 32898 := by decide +kernel
theorem tv161 : tv 161 = .int .u64 32898 := by rw [tv_rounds 1 (by decide), rl1]; rfl
theorem tl1 : (tl 24).getD 1 0 = 1 := by decide +kernel
theorem tv185 : tv 185 = .int .i64 1 := by rw [tv_turns 1 (by decide), tl1]; rfl
theorem zt1 : zt 1 = 4808194 := by decide +kernel
theorem tv210 : tv 210 = .int .i64 4808194 := by rw [tv_zetas 1 (by decide), zl_get 256 1 (by decide) (by decide), zt1]; rfl

set_option maxRecDepth 100000 in
set_option maxHeartbeats 1000000 in
theorem awake_any (w : World) :
    Calls Try.prog 19 #[] w fun e w' => e = .returned (.bool true) ∧ Below w.heap.size w w' := by
  obtain ⟨hz, hsize⟩ := zero_of_info infoT
  obtain ⟨Z, HZ⟩ := ex_eq TZ
  rw [HZ.out] at hz
  have HZs : Away (Z.size = 465) := ⟨by rw [← HZ.out]; exact tz_size⟩
  have Hsize := Away.mk hsize
  clear hsize
  obtain ⟨T, HT⟩ := ex_eq TA
  have HTs : Away (T.size = 465) := ⟨by rw [← HT.out]; exact ta_size⟩
  have HTo : Away (T.all (·.oneCell') = true) := ⟨by rw [← HT.out]; exact ta_one⟩
  have HTg : Away (∀ i, i < 465 → T[i]? = some (tv i)) := ⟨fun i hi => by rw [← HT.out]; exact ta_get i hi⟩
  go_enter Try.func19, Try.ntmps19
  go_wp2_with fail
  refine (make_any _).mono ?_
  rintro e w1 ⟨rfl, hb1⟩
  rw [HT.out]
  go_wp2_with (refine wpList_store_new rfl 39 _ _ rfl _ rfl rfl (by rw [HTs.out]; exact Hsize.out) (by rw [HTs.out]; exact HZs.out) HTo.out rfl ?_)
  clear hz
  refine (primes_any 4 _).mono ?_
  rintro e w2 ⟨v, rfl, hh⟩
  obtain ⟨gp, cap, rfl, hpc, hcap⟩ := pc_of (n := 4) (g := w1.heap.size) (by decide) (by decide) hh (by simp)
  have hg := (hh.2.block w1.heap.size (by simp)).trans (heap_at w1 (.cells T 39) _ rfl)
  have hp3 := hpc.cs 3 (by decide)
  rw [show ph.getD 3 0 = 7 from rfl] at hp3
  have c0 := cell_at hg ((HTg.out 0 (by decide)).trans (congrArg some tv0))
  have c64 := cell_at hg ((HTg.out 64 (by decide)).trans (congrArg some tv64))
  have c73 := cell_at hg ((HTg.out 73 (by decide)).trans (congrArg some tv73))
  have c161 := cell_at hg ((HTg.out 161 (by decide)).trans (congrArg some tv161))
  have c185 := cell_at hg ((HTg.out 185 (by decide)).trans (congrArg some tv185))
  have c210 := cell_at hg ((HTg.out 210 (by decide)).trans (congrArg some tv210))
  have Hb : Away (Below w.heap.size w w2) := ⟨(hb1.alloc hb1.size _).trans (hh.2.mono (by have := hb1.size; simp; omega))⟩
  clear hb1 hh hpc hg HTg
  go_wp2_with fail
  go_ret
  exact ⟨rfl, Hb.out⟩
end Go.Proofs.Ytdmepbjcnnggaaa.awake
