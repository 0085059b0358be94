/-
  The law package's own look at field ('awake') returns true. Conditions: none.
-/
import Derived.Test.YtoplboemnabkpaaFSub
import Derived.Test.YtoplboemnabkpaaFScale
import Derived.Test.YtoplboemnabkpaaFRight
import Derived.Test.YtoplboemnabkpaaFSize
namespace Go.Proofs.Ytoplboemnabkpaa.awake7
open Go Go.RowKit
open Go.Proofs.Ytoplboemnabkpaa.arr Go.Proofs.Ytoplboemnabkpaa.mem Go.Proofs.Ytoplboemnabkpaa.polys Go.Proofs.Ytoplboemnabkpaa.polt Go.Proofs.Ytoplboemnabkpaa.fldm Go.Proofs.Ytoplboemnabkpaa.fld1

theorem size8 : cbs (fun _ => fun i => (p2 1 2 i - p1 9 i) % 8380417) 1 = 8 := by decide +kernel
theorem sub2 : FL .i64 256 (fun i => (p2 1 2 i - p1 2 i) % 8380417) = FL .i64 256 (p2 8380416 2) := fl_congr .i64 256 fun i _ => by
  show (p2 1 2 i - p1 2 i) % 8380417 = p2 8380416 2 i
  unfold p2 p1 upd
  by_cases h0 : i = 0
  · subst h0; decide
  · by_cases h1 : i = 1
    · subst h1; decide
    · simp only [if_neg h1, if_neg h0]; rfl
set_option maxRecDepth 100000 in
set_option maxHeartbeats 2000000 in
theorem awake_any (w : World) :
    Calls Try.prog 4 #[] w fun e w' => e = .returned (.bool true) ∧ Below w.heap.size w w' := by
  obtain ⟨hz, hsize⟩ := zero_of_info infoP
  obtain ⟨i0, hi, hz0, hz1, hz2⟩ := tparts infoPoly
  obtain ⟨z, HZ⟩ := ex_eq (FL .i64 256 fun _ => 0)
  rw [HZ.out] at hz hz0
  have Hzs : Away (z.size = 256) := ⟨by rw [← HZ.out]; exact fl_size _ _ _⟩
  have HI := Away.mk (And.intro hi (And.intro hz0 (And.intro hz1 hz2)))
  have H1 : ∀ w1 : World, Calls Try.prog 6 #[.int .i64 (-1)] w1 fun e w' => e = .returned (.int .i64 8380416) ∧ w1 = w' := fun w1 => (reduce_any (-1) w1).mono fun _ _ h => ⟨h.1, h.2.symm⟩
  have H2 : ∀ w1 : World, Calls Try.prog 5 #[.int .i64 5, .int .i64 8] w1 fun e w' => e = .returned (.int .i64 (-3)) ∧ w1 = w' := fun w1 => (centre_any 5 8 w1).mono fun _ _ h => ⟨h.1, h.2.symm⟩
  have H3 : ∀ w1 : World, Calls Try.prog 5 #[.int .i64 4, .int .i64 8] w1 fun e w' => e = .returned (.int .i64 4) ∧ w1 = w' := fun w1 => (centre_any 4 8 w1).mono fun _ _ h => ⟨h.1, h.2.symm⟩
  obtain ⟨P, HP⟩ := ex_eq (FL .i64 256 (p2 1 2))
  obtain ⟨A, HA⟩ := ex_eq (FL .i64 256 (p1 2))
  obtain ⟨B, HB⟩ := ex_eq (FL .i64 256 (p2 8380416 2))
  obtain ⟨D, HD⟩ := ex_eq (FL .i64 256 (p1 9))
  obtain ⟨E, HE⟩ := ex_eq (FL .i64 256 (fun i => (p2 1 2 i - p1 9 i) % 8380417))
  obtain ⟨G, HG⟩ := ex_eq (FL .i64 256 (p1 (-1)))
  obtain ⟨S, HS⟩ := ex_eq (FL .i64 256 (fun i => (p2 1 2 i * 3) % 8380417))
  have H4 : Away (∀ w1 : World, Calls Try.prog 7 #[.agg P, .agg A] w1 fun e w' => e = .returned (.agg B) ∧ Below w1.heap.size w1 w') := ⟨fun w1 => by rw [← HP.out, ← HA.out, ← HB.out, ← sub2]; exact fsub.sub_any _ _ w1⟩
  have H5 : Away (∀ w1 : World, Calls Try.prog 7 #[.agg P, .agg D] w1 fun e w' => e = .returned (.agg E) ∧ Below w1.heap.size w1 w') := ⟨fun w1 => by rw [← HP.out, ← HD.out, ← HE.out]; exact fsub.sub_any _ _ w1⟩
  have H6 : Away (∀ (w1 : World) (g : Nat), w1.heap[g]? = some (.cells E 27 (0, 0)) → Calls Try.prog 8 #[.slice (some ⟨g, 0, none⟩) 1 1] w1 fun e w' => e = .returned (.int .i64 8) ∧ w1 = w') := ⟨fun w1 g hg => by
    have h := fsize.size_any g 1 1 (fun _ => fun i => (p2 1 2 i - p1 9 i) % 8380417) w1 (by decide) (fun j hj i hi => by
      obtain rfl : j = 0 := by omega
      rw [Nat.zero_mul, Nat.zero_add]
      exact fl_at (by rw [HE.out]; exact hg) i hi)
    rw [size8] at h
    exact h.mono fun _ _ h => ⟨h.1, h.2.symm⟩⟩
  have H7 : Away (∀ w1 : World, Calls Try.prog 9 #[.agg G] w1 fun e w' => e = .returned (.bool false) ∧ Below w1.heap.size w1 w') := ⟨fun w1 => by
    have h := fright.right_any (p1 (-1)) w1
    rw [same_not 256 _ _ 0 (by decide) (by decide), HG.out] at h
    exact h⟩
  have H8 : Away (∀ w1 : World, Calls Try.prog 10 #[.agg P, .int .i64 3] w1 fun e w' => e = .returned (.agg S) ∧ Below w1.heap.size w1 w') := ⟨fun w1 => by rw [← HP.out, ← HS.out]; exact fscale.scale_any _ 3 w1⟩
  have HEq : Away (∀ w1 : World, (Op.equalIn 10000 27 (.agg B) (.agg B)).run Try.prog w1 = .ok true w1) := ⟨fun w1 => by
    have h := equal_poly (p2 8380416 2) (p2 8380416 2) w1
    rw [HB.out, (same_iff 256 _ _).2 fun _ _ => rfl] at h
    exact h⟩
  have HSi : Away (∀ w1 : World, (Instr.index 27 (.agg S) (.int .i64 1)).run Try.prog w1 = .ok (.int .i64 6) w1) := ⟨fun w1 => by
    have h := index_poly (fun i => (p2 1 2 i * 3) % 8380417) 1 (by decide) w1
    rw [HS.out] at h
    exact h⟩
  have hne : ¬ z = #[] := fun h => by have := Hzs.out; rw [h] at this; cases this
  have hn2 : ¬ z.size < 2 := by rw [Hzs.out]; decide
  have bP : (z.setIfInBounds 0 (.int .i64 1)).setIfInBounds 1 (.int .i64 2) = P := by rw [← HZ.out, fl_set, fl_set, ← HP.out]; rfl
  have bA : z.setIfInBounds 0 (.int .i64 2) = A := by rw [← HZ.out, fl_set, ← HA.out]; rfl
  have bB : (z.setIfInBounds 0 (.int .i64 8380416)).setIfInBounds 1 (.int .i64 2) = B := by rw [← HZ.out, fl_set, fl_set, ← HB.out]; rfl
  have bD : z.setIfInBounds 0 (.int .i64 9) = D := by rw [← HZ.out, fl_set, ← HD.out]; rfl
  have bG : z.setIfInBounds 0 (.int .i64 (-1)) = G := by rw [← HZ.out, fl_set, ← HG.out]; rfl
  have Ps : Away (P.size = 256) := ⟨by rw [← HP.out]; exact fl_size _ _ _⟩
  have Pi : Away ((Try.prog.info? 27).map (·.size) = some P.size) := ⟨by rw [Ps.out]; exact hsize⟩
  have Po : Away (P.all (·.oneCell') = true) := ⟨by rw [← HP.out]; exact fl_one _ _ _⟩
  have Es : Away (E.size = 256) := ⟨by rw [← HE.out]; exact fl_size _ _ _⟩
  have Pz : Away (z.size = P.size) := ⟨by rw [Hzs.out, Ps.out]⟩
  clear HZ HP HA HB HD HE HG HS hsize hi hz0 hz1 hz2
  go_enter Try.func4, Try.ntmps4
  go_wp2_with (refine wpList_store_new rfl 27 _ _ rfl _ rfl rfl Pi.out Pz.out Po.out rfl ?_)
  obtain ⟨W, hW⟩ : ∃ W, w.alloc (.cells P 27) = W := ⟨_, rfl⟩
  obtain ⟨hg, hs, hb⟩ := one hW
  have G0 := Away.mk hg
  have B0 := Away.mk hb
  rw [hW]
  clear hW hg hb hs
  refine (H1 _).mono ?_
  rintro e w1 ⟨rfl, rfl⟩
  go_wp2_with fail
  refine (H2 _).mono ?_
  rintro e w1 ⟨rfl, rfl⟩
  go_wp2_with fail
  refine (H3 _).mono ?_
  rintro e w1 ⟨rfl, rfl⟩
  go_wp2_with fail
  refine wp_load_row 27 _ rfl w.heap.size rfl 27 P (0, 0) _ G0.out Try.underlying27 rfl Pi.out ?_
  go_wp2_with fail
  refine (H4.out _).mono ?_
  rintro e w2 ⟨rfl, hb2⟩
  have heq := HEq.out w2
  have G2 : Away (w2.heap[w.heap.size]? = some (.cells P 27 (0, 0))) := ⟨(hb2.block _ (lt_of_row G0.out)).trans G0.out⟩
  have B2 : Away (Below w.heap.size w w2) := ⟨B0.out.trans (hb2.mono B0.out.size)⟩
  clear hb2
  go_wp2_with fail
  clear heq
  refine wp_load_row 27 _ rfl w.heap.size rfl 27 P (0, 0) _ G2.out Try.underlying27 rfl Pi.out ?_
  go_wp2_with fail
  refine (H5.out _).mono ?_
  rintro e w3 ⟨rfl, hb3⟩
  have G3 : Away (w3.heap[w.heap.size]? = some (.cells P 27 (0, 0))) := ⟨(hb3.block _ (lt_of_row G2.out)).trans G2.out⟩
  have B3 : Away (Below w.heap.size w w3) := ⟨B2.out.trans (hb3.mono B2.out.size)⟩
  have Hzc : Away ((Value.agg z).cells.size = 256) := ⟨Hzs.out⟩
  clear hb3
  go_wp2_with fail
  refine wp_buildSlice 30 27 1 _ rfl E i0 (.agg z) Try.underlying30 HI.out.1 HI.out.2.1 (by rw [HI.out.2.2.1]; decide) (by rw [HI.out.2.2.1]; decide) ?hf ?_
  case hf =>
    go_simp
    exact ⟨⟨decide_eq_false (fun h => h (Es.out.trans HI.out.2.2.1.symm)), by rw [Es.out, HI.out.2.2.1]; exact Nat.le_refl _⟩, fold_one E _ Es.out (by simp [HI.out.2.2.1])⟩
  go_wp2_with fail
  refine (H6.out _ w3.heap.size (heap_at _ _ _ rfl)).mono ?_
  rintro e w4 ⟨rfl, rfl⟩
  obtain ⟨V, hV⟩ : ∃ V, w3.alloc (.cells E 27) = V := ⟨_, rfl⟩
  have hbv : Below w3.heap.size w3 V := by rw [← hV]; exact below_alloc _ _
  have G5 : Away (V.heap[w.heap.size]? = some (.cells P 27 (0, 0))) := ⟨(hbv.block _ (lt_of_row G3.out)).trans G3.out⟩
  have B5 : Away (Below w.heap.size w V) := ⟨B3.out.trans (hbv.mono B3.out.size)⟩
  rw [hV]
  clear hV hbv
  go_wp2_with fail
  refine (H7.out _).mono ?_
  rintro e w6 ⟨rfl, hb6⟩
  have G6 : Away (w6.heap[w.heap.size]? = some (.cells P 27 (0, 0))) := ⟨(hb6.block _ (lt_of_row G5.out)).trans G5.out⟩
  have B6 : Away (Below w.heap.size w w6) := ⟨B5.out.trans (hb6.mono B5.out.size)⟩
  clear hb6
  go_wp2_with fail
  refine wp_load_row 27 _ rfl w.heap.size rfl 27 P (0, 0) _ G6.out Try.underlying27 rfl Pi.out ?_
  go_wp2_with fail
  refine (H8.out _).mono ?_
  rintro e w7 ⟨rfl, hb7⟩
  have B7 : Away (Below w.heap.size w w7) := ⟨B6.out.trans (hb7.mono B6.out.size)⟩
  have hix := HSi.out w7
  clear hb7
  go_wp2_with fail
  go_ret
  exact ⟨rfl, B7.out⟩
end Go.Proofs.Ytoplboemnabkpaa.awake7
