/-
  The law package's own look at ntt ('awake') returns true. Conditions: none.
-/
import Derived.Test.YtbbealdamampaaaNttC
import Derived.Test.YtbbealdamampaaaNSlow
import Derived.Test.YtbbealdamampaaaNTimes
import Derived.Test.YtbbealdamampaaaTMc
namespace Go.Proofs.Ytbbealdamampaaa.awake8
open Go Go.RowKit
open Go.Proofs.Ytbbealdamampaaa.arr Go.Proofs.Ytbbealdamampaaa.mem Go.Proofs.Ytbbealdamampaaa.stil Go.Proofs.Ytbbealdamampaaa.tabv Go.Proofs.Ytbbealdamampaaa.polys Go.Proofs.Ytbbealdamampaaa.polt Go.Proofs.Ytbbealdamampaaa.nttm Go.Proofs.Ytbbealdamampaaa.nttt Go.Proofs.Ytbbealdamampaaa.nttl Go.Proofs.Ytbbealdamampaaa.nthere Go.Proofs.Ytbbealdamampaaa.nprod Go.Proofs.Ytbbealdamampaaa.nttc

theorem there_doc (f : Nat → Int) (w : World) : Calls Try.prog 8 #[.agg TA, .agg (FL .i64 256 f)] w fun e w' => e = .returned (.agg (FL .i64 256 (thereR ζ 8 f))) ∧ Below w.heap.size w w' := by
  have h := there_any TA _ f w zt_doc
  rw [zt_red] at h
  exact h
theorem back_doc (f : Nat → Int) (w : World) : Calls Try.prog 7 #[.agg TA, .agg (FL .i64 256 f)] w fun e w' => e = .returned (.agg (FL .i64 256 fun i => (backR ζ 8 f i * 8347681) % 8380417)) ∧ Below w.heap.size w w' := by
  have h := nback.back_any TA _ f w zt_doc
  rw [zt_red] at h
  exact h
theorem product_doc (f g : Nat → Int) (w : World) : Calls Try.prog 10 #[.agg TA, .agg (FL .i64 256 f), .agg (FL .i64 256 g)] w fun e w' => e = .returned (.agg (FL .i64 256 (pr ζ f g))) ∧ Below w.heap.size w w' := by
  have h := product_any TA _ f g w zt_doc
  rw [zt_red] at h
  exact h
theorem infoTT : (Try.prog.info? 33).map (fun i => (i.zero, i.size)) = some (some (.agg built.TZ), 465) := by kernel_rfl
set_option maxRecDepth 100000 in
set_option maxHeartbeats 4000000 in
theorem awake_any (w : World) :
    Calls Try.prog 9 #[] w fun e w' => e = .returned (.bool true) ∧ Below w.heap.size w w' := by
  obtain ⟨hzt, hsizeT⟩ := zero_of_info infoTT
  obtain ⟨Zt, HZt⟩ := ex_eq built.TZ
  rw [HZt.out] at hzt
  have HZts : Away (Zt.size = 465) := ⟨by rw [← HZt.out]; exact built.tz_size⟩
  obtain ⟨hz, hsize⟩ := zero_of_info infoP
  obtain ⟨i0, hi, hz0, hz1, hz2⟩ := tparts infoPoly
  obtain ⟨z, HZ⟩ := ex_eq (FL .i64 256 fun _ => 0)
  rw [HZ.out] at hz hz0
  have Hzs : Away (z.size = 256) := ⟨by rw [← HZ.out]; exact fl_size _ _ _⟩
  obtain ⟨T, HT⟩ := ex_eq TA
  have Ti : Away ((Try.prog.info? 33).map (·.size) = some T.size) := ⟨by rw [← HT.out, ta_size]; exact hsizeT⟩
  have To : Away (T.all (·.oneCell') = true) := ⟨by rw [← HT.out]; exact ta_one⟩
  have Tz : Away (Zt.size = T.size) := ⟨by rw [HZts.out, ← HT.out, ta_size]⟩
  obtain ⟨PA, HPA⟩ := ex_eq (FL .i64 256 (xk 1 1))
  obtain ⟨PB, HPB⟩ := ex_eq (FL .i64 256 (xk 255 1))
  obtain ⟨PC, HPC⟩ := ex_eq (FL .i64 256 (p1 8380416))
  obtain ⟨P3, HP3⟩ := ex_eq (FL .i64 256 (p1 3))
  obtain ⟨S, HS⟩ := ex_eq (FL .i64 256 (thereR ζ 8 (p1 3)))
  obtain ⟨P2, HP2⟩ := ex_eq (FL .i64 256 (p1 2))
  obtain ⟨P5, HP5⟩ := ex_eq (FL .i64 256 (p1 5))
  obtain ⟨M, HM⟩ := ex_eq (FL .i64 256 (fun i => (p1 2 i * p1 5 i) % 8380417))
  have H0 : Away (∀ w1 : World, Calls Try.prog 5 #[] w1 fun e w' => e = .returned (.agg T) ∧ Below w1.heap.size w1 w') := ⟨fun w1 => by rw [← HT.out]; exact make.make_any w1⟩
  have H1 : Away (∀ w1 : World, Calls Try.prog 10 #[.agg T, .agg PA, .agg PB] w1 fun e w' => e = .returned (.agg PC) ∧ Below w1.heap.size w1 w') := ⟨fun w1 => by
    have h := product_doc (xk 1 1) (xk 255 1) w1
    rw [show FL .i64 256 (pr ζ (xk 1 1) (xk 255 1)) = FL .i64 256 (p1 8380416) from fl_congr .i64 256 small_pr, HT.out, HPA.out, HPB.out, HPC.out] at h
    exact h⟩
  have H2 : Away (∀ w1 : World, Calls Try.prog 11 #[.agg PA, .agg PB] w1 fun e w' => e = .returned (.agg PC) ∧ Below w1.heap.size w1 w') := ⟨fun w1 => by
    have h := nslow.slow_any (xk 1 1) (xk 255 1) w1
    rw [show FL .i64 256 (red (mul 256 (-1) (red (xk 1 1)) (red (xk 255 1)))) = FL .i64 256 (p1 8380416) from fl_congr .i64 256 small, HPA.out, HPB.out, HPC.out] at h
    exact h⟩
  have H3 : Away (∀ w1 : World, Calls Try.prog 8 #[.agg T, .agg P3] w1 fun e w' => e = .returned (.agg S) ∧ Below w1.heap.size w1 w') := ⟨fun w1 => by
    have h := there_doc (p1 3) w1
    rw [HT.out, HP3.out, HS.out] at h
    exact h⟩
  have H4 : Away (∀ w1 : World, Calls Try.prog 22 #[.agg P2, .agg P5] w1 fun e w' => e = .returned (.agg M) ∧ Below w1.heap.size w1 w') := ⟨fun w1 => by
    have h := ntimes.times_any (p1 2) (p1 5) w1
    rw [HP2.out, HP5.out, HM.out] at h
    exact h⟩
  have HEq : Away (∀ w1 : World, (Op.equalIn 10000 23 (.agg PC) (.agg PC)).run Try.prog w1 = .ok true w1) := ⟨fun w1 => by
    have h := equal_poly (p1 8380416) (p1 8380416) w1
    rw [HPC.out, (same_iff 256 _ _).2 fun _ _ => rfl] at h
    exact h⟩
  have HSi : Away (∀ w1 : World, (Instr.index 23 (.agg S) (.int .i64 200)).run Try.prog w1 = .ok (.int .i64 3) w1) := ⟨fun w1 => by
    have h := index_poly (thereR ζ 8 (p1 3)) 200 (by decide) w1
    rw [HS.out, three_is] at h
    exact h⟩
  have HMi : Away (∀ w1 : World, (Instr.index 23 (.agg M) (.int .i64 0)).run Try.prog w1 = .ok (.int .i64 10) w1) := ⟨fun w1 => by
    have h := index_poly (fun i => (p1 2 i * p1 5 i) % 8380417) 0 (by decide) w1
    rw [HM.out] at h
    exact h⟩
  have hne : ¬ z = #[] := fun h => by have := Hzs.out; rw [h] at this; cases this
  have bC : z.setIfInBounds 0 (.int .i64 8380416) = PC := by rw [← HZ.out, fl_set, ← HPC.out]; rfl
  have b3 : z.setIfInBounds 0 (.int .i64 3) = P3 := by rw [← HZ.out, fl_set, ← HP3.out]; rfl
  have b2 : z.setIfInBounds 0 (.int .i64 2) = P2 := by rw [← HZ.out, fl_set, ← HP2.out]; rfl
  have b5 : z.setIfInBounds 0 (.int .i64 5) = P5 := by rw [← HZ.out, fl_set, ← HP5.out]; rfl
  have Ai : Away ((Try.prog.info? 23).map (·.size) = some PA.size) := ⟨by rw [← HPA.out, fl_size]; exact hsize⟩
  have Bi : Away ((Try.prog.info? 23).map (·.size) = some PB.size) := ⟨by rw [← HPB.out, fl_size]; exact hsize⟩
  have Hhne := Away.mk hne
  have Hb := Away.mk (And.intro bC (And.intro b3 (And.intro b2 b5)))
  clear HPC HP3 HS HP2 HP5 HM HZt HT hsize hsizeT hi hz0 hz1 hz2 hne bC b3 b2 b5
  go_enter Try.func9, Try.ntmps9
  go_wp2_with fail
  refine (H0.out _).mono ?_
  rintro e w1 ⟨rfl, hb1⟩
  have Hb1 := Away.mk hb1
  clear hb1
  obtain ⟨W, hW⟩ : ∃ x, ((w1.alloc (.cells T 33)).alloc (.cells z 23)).alloc (.cells z 23) = x := ⟨_, rfl⟩
  obtain ⟨r0, r1, r2, hWs, hWb⟩ := three hW
  have A0 : Away (At (w1.heap.size + 1) (FL .i64 256 fun _ => 0) 23 W (((w1.alloc (.cells T 33)).alloc (.cells z 23)).alloc (.cells z 23))) := ⟨by rw [hW]; exact At.refl (by rw [HZ.out]; exact r1)⟩
  have R0 := Away.mk r0
  have R2 : Away (W.heap[w1.heap.size + 2]? = some (.cells (FL .i64 256 fun _ => 0) 23 (0, 0))) := ⟨by rw [HZ.out]; exact r2⟩
  have HWs := Away.mk hWs
  have HB0 : Away (Below w.heap.size w W) := ⟨Hb1.out.trans (hWb.mono Hb1.out.size)⟩
  clear hW r0 r1 r2 hWs hWb
  go_wp2_with (first
    | (refine wpList_store_new rfl 33 _ _ rfl _ rfl rfl Ti.out Tz.out To.out rfl ?_)
    | ((with_reducible refine wpList_put2 A2 rfl _ _ _ rfl rfl ?_); refine ⟨_, _, _, rfl, rfl, rfl, (by rw [fl_size]; decide), ?_⟩; intro w6 A3; rw [fl_set] at A3)
    | ((with_reducible refine wpList_put2 A0 rfl _ _ _ rfl rfl ?_); refine ⟨_, _, _, rfl, rfl, rfl, (by rw [fl_size]; decide), ?_⟩; intro w5 A1; rw [fl_set] at A1; have A2 : Away (At (w1.heap.size + 2) (FL .i64 256 fun _ => 0) 23 w5 w5) := ⟨At.refl (A1.out.other (by have := HWs.out; omega) (by omega) R2.out)⟩))
  have G0 : Away (w6.heap[w1.heap.size]? = some (.cells T 33 (0, 0))) := ⟨A3.out.other (by have := A1.out.size; have := HWs.out; omega) (by omega) (A1.out.other (by have := HWs.out; omega) (by omega) R0.out)⟩
  have GA : Away (w6.heap[w1.heap.size + 1]? = some (.cells PA 23 (0, 0))) := ⟨by rw [← HPA.out]; exact A3.out.other (by have := A1.out.size; have := HWs.out; omega) (by omega) A1.out.row⟩
  have GB : Away (w6.heap[w1.heap.size + 2]? = some (.cells PB 23 (0, 0))) := ⟨by rw [← HPB.out]; exact A3.out.row⟩
  have HB6 : Away (Below w.heap.size w w6) := ⟨(HB0.out.trans (A1.out.below HB0.out.size (by have := Hb1.out.size; omega))).trans (A3.out.below (by have := A1.out.size; have := HB0.out.size; omega) (by have := Hb1.out.size; omega))⟩
  clear A0 A1 A2 A3 R0 R2 HWs HB0 HPA HPB
  obtain ⟨bC, b3, b2, b5⟩ := Hb.out
  have hne := Hhne.out
  refine wp_load_row 33 _ rfl w1.heap.size rfl 33 T (0, 0) _ G0.out Try.underlying33 rfl Ti.out ?_
  go_wp2_with fail
  refine wp_load_row 23 _ rfl (w1.heap.size + 1) rfl 23 PA (0, 0) _ GA.out Try.underlying23 rfl Ai.out ?_
  go_wp2_with fail
  refine wp_load_row 23 _ rfl (w1.heap.size + 2) rfl 23 PB (0, 0) _ GB.out Try.underlying23 rfl Bi.out ?_
  go_wp2_with fail
  refine (H1.out _).mono ?_
  rintro e w7 ⟨rfl, hb7⟩
  have heq := HEq.out w7
  have G1 : Away (w7.heap[w1.heap.size]? = some (.cells T 33 (0, 0))) := ⟨(hb7.block _ (lt_of_row G0.out)).trans G0.out⟩
  have GA1 : Away (w7.heap[w1.heap.size + 1]? = some (.cells PA 23 (0, 0))) := ⟨(hb7.block _ (lt_of_row GA.out)).trans GA.out⟩
  have GB1 : Away (w7.heap[w1.heap.size + 2]? = some (.cells PB 23 (0, 0))) := ⟨(hb7.block _ (lt_of_row GB.out)).trans GB.out⟩
  have HB7 : Away (Below w.heap.size w w7) := ⟨HB6.out.trans (hb7.mono HB6.out.size)⟩
  clear hb7 G0 GA GB HB6
  go_wp2_with fail
  clear heq
  refine wp_load_row 23 _ rfl (w1.heap.size + 1) rfl 23 PA (0, 0) _ GA1.out Try.underlying23 rfl Ai.out ?_
  go_wp2_with fail
  refine wp_load_row 23 _ rfl (w1.heap.size + 2) rfl 23 PB (0, 0) _ GB1.out Try.underlying23 rfl Bi.out ?_
  go_wp2_with fail
  refine (H2.out _).mono ?_
  rintro e w8 ⟨rfl, hb8⟩
  have heq := HEq.out w8
  have G2 : Away (w8.heap[w1.heap.size]? = some (.cells T 33 (0, 0))) := ⟨(hb8.block _ (lt_of_row G1.out)).trans G1.out⟩
  have HB8 : Away (Below w.heap.size w w8) := ⟨HB7.out.trans (hb8.mono HB7.out.size)⟩
  clear hb8 G1 GA1 GB1 HB7
  go_wp2_with fail
  clear heq
  refine wp_load_row 33 _ rfl w1.heap.size rfl 33 T (0, 0) _ G2.out Try.underlying33 rfl Ti.out ?_
  go_wp2_with fail
  refine (H3.out _).mono ?_
  rintro e w9 ⟨rfl, hb9⟩
  have hsi := HSi.out w9
  have HB9 : Away (Below w.heap.size w w9) := ⟨HB8.out.trans (hb9.mono HB8.out.size)⟩
  clear hb9 G2 HB8
  go_wp2_with fail
  refine (H4.out _).mono ?_
  rintro e w10 ⟨rfl, hb10⟩
  have hmi := HMi.out w10
  have HB10 : Away (Below w.heap.size w w10) := ⟨HB9.out.trans (hb10.mono HB9.out.size)⟩
  clear hb10 HB9 hsi
  go_wp2_with fail
  go_ret
  exact ⟨rfl, HB10.out⟩
end Go.Proofs.Ytbbealdamampaaa.awake8
