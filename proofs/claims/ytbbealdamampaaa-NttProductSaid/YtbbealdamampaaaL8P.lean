/-
  The statement NttProduct (P8.7, P8.8): with the document's tables, the quick product is the slow one, in either order, and there takes sums to sums, for every two polynomials. Conditions: none.
-/
import Derived.Test.YtbbealdamampaaaRows
import Derived.Test.YtbbealdamampaaaAwake8
import Derived.Test.YtbbealdamampaaaFAdd
import Derived.Test.YtbbealdamampaaaBase
import Derived.ProofKit
import Derived.OpenShut
import Derived.Carry
namespace Go.Proofs.Ytbbealdamampaaa.l8p
open Go.ChangeShapes Go.WideShapes Go.ChangeAt Go.RowKit
open Go.Proofs.Ytbbealdamampaaa.arr Go.Proofs.Ytbbealdamampaaa.mem Go.Proofs.Ytbbealdamampaaa.stil Go.Proofs.Ytbbealdamampaaa.tabv Go.Proofs.Ytbbealdamampaaa.polys Go.Proofs.Ytbbealdamampaaa.polt Go.Proofs.Ytbbealdamampaaa.nttm Go.Proofs.Ytbbealdamampaaa.nttt Go.Proofs.Ytbbealdamampaaa.nttl Go.Proofs.Ytbbealdamampaaa.nthere Go.Proofs.Ytbbealdamampaaa.nprod Go.Proofs.Ytbbealdamampaaa.nttc Go.Proofs.Ytbbealdamampaaa.awake8 Go.Proofs.Ytbbealdamampaaa.qops
set_option linter.unusedVariables false
theorem own : ownKnob Try.prog.godebug = none := by kernel_rfl
theorem laidOut : laidOutB Try.prog = true := by kernel_rfl


set_option maxRecDepth 100000 in
set_option maxHeartbeats 4000000 in
theorem walk (f g : Nat → Int) (w : World) :
    Calls Try.prog 4 #[.agg (FL .i64 256 f), .agg (FL .i64 256 g)] w fun e w' => e = .returned (.bool true) ∧ Below w.heap.size w w' := by
  obtain ⟨hzt, hsizeT⟩ := zero_of_info infoTT
  obtain ⟨Zt, HZt⟩ := ex_eq built.TZ
  rw [HZt.out] at hzt
  have HZts : Away (Zt.size = 465) := ⟨by rw [← HZt.out]; exact built.tz_size⟩
  obtain ⟨hz, hsize⟩ := zero_of_info infoP
  obtain ⟨i0, hi, hz0, hz1, hz2⟩ := tparts infoPoly
  obtain ⟨z, HZ⟩ := ex_eq (FL .i64 256 fun _ => 0)
  rw [HZ.out] at hz hz0
  have Hzs : Away (z.size = 256) := ⟨by rw [← HZ.out]; exact fl_size _ _ _⟩
  obtain ⟨T, HT⟩ := ex_eq TA
  have Ti : Away ((Try.prog.info? 33).map (·.size) = some T.size) := ⟨by rw [← HT.out, ta_size]; exact hsizeT⟩
  have To : Away (T.all (·.oneCell') = true) := ⟨by rw [← HT.out]; exact ta_one⟩
  have Tz : Away (Zt.size = T.size) := ⟨by rw [HZts.out, ← HT.out, ta_size]⟩
  have sz : ∀ h : Nat → Int, (Try.prog.info? 23).map (·.size) = some (FL .i64 256 h).size := fun h => by rw [fl_size]; exact hsize
  have H0 : Away (∀ w1 : World, Calls Try.prog 5 #[] w1 fun e w' => e = .returned (.agg T) ∧ Below w1.heap.size w1 w') := ⟨fun w1 => by rw [← HT.out]; exact make.make_any w1⟩
  have H9 := Away.mk (fun w1 : World => awake8.awake_any w1)
  obtain ⟨F, HF⟩ := ex_eq (FL .i64 256 (f))
  have Fi : Away ((Try.prog.info? 23).map (·.size) = some F.size) := ⟨by rw [← HF.out]; exact sz _⟩
  obtain ⟨G, HG⟩ := ex_eq (FL .i64 256 (g))
  have Gi : Away ((Try.prog.info? 23).map (·.size) = some G.size) := ⟨by rw [← HG.out]; exact sz _⟩
  obtain ⟨P, HP⟩ := ex_eq (FL .i64 256 (pr ζ f g))
  have Pi : Away ((Try.prog.info? 23).map (·.size) = some P.size) := ⟨by rw [← HP.out]; exact sz _⟩
  obtain ⟨A, HA⟩ := ex_eq (FL .i64 256 (fun i => (f i + g i) % 8380417))
  have Ai : Away ((Try.prog.info? 23).map (·.size) = some A.size) := ⟨by rw [← HA.out]; exact sz _⟩
  obtain ⟨X, HX⟩ := ex_eq (FL .i64 256 (thereR ζ 8 f))
  have Xi : Away ((Try.prog.info? 23).map (·.size) = some X.size) := ⟨by rw [← HX.out]; exact sz _⟩
  obtain ⟨Y, HY⟩ := ex_eq (FL .i64 256 (thereR ζ 8 g))
  have Yi : Away ((Try.prog.info? 23).map (·.size) = some Y.size) := ⟨by rw [← HY.out]; exact sz _⟩
  obtain ⟨Q, HQ⟩ := ex_eq (FL .i64 256 (fun i => (thereR ζ 8 f i + thereR ζ 8 g i) % 8380417))
  have Qi : Away ((Try.prog.info? 23).map (·.size) = some Q.size) := ⟨by rw [← HQ.out]; exact sz _⟩
  have H1 : Away (∀ w1 : World, Calls Try.prog 10 #[.agg T, .agg F, .agg G] w1 fun e w' => e = .returned (.agg P) ∧ Below w1.heap.size w1 w') := ⟨fun w1 => by
    have h := product_doc f g w1
    rw [HT.out, HF.out, HG.out, HP.out] at h
    exact h⟩
  have H2 : Away (∀ w1 : World, Calls Try.prog 11 #[.agg F, .agg G] w1 fun e w' => e = .returned (.agg P) ∧ Below w1.heap.size w1 w') := ⟨fun w1 => by
    have h := nslow.slow_any f g w1
    rw [show FL .i64 256 (red (mul 256 (-1) (red f) (red g))) = FL .i64 256 (pr ζ f g) from fl_congr .i64 256 fun j hj => (product_is f g j hj).symm, HF.out, HG.out, HP.out] at h
    exact h⟩
  have H3 : Away (∀ w1 : World, Calls Try.prog 10 #[.agg T, .agg G, .agg F] w1 fun e w' => e = .returned (.agg P) ∧ Below w1.heap.size w1 w') := ⟨fun w1 => by
    have h := product_doc g f w1
    rw [product_comm g f, HT.out, HF.out, HG.out, HP.out] at h
    exact h⟩
  have H4 : Away (∀ w1 : World, Calls Try.prog 6 #[.agg F, .agg G] w1 fun e w' => e = .returned (.agg A) ∧ Below w1.heap.size w1 w') := ⟨fun w1 => by
    have h := fadd.add_any f g w1
    rw [HF.out, HG.out, HA.out] at h
    exact h⟩
  have H5 : Away (∀ w1 : World, Calls Try.prog 8 #[.agg T, .agg A] w1 fun e w' => e = .returned (.agg Q) ∧ Below w1.heap.size w1 w') := ⟨fun w1 => by
    have h := there_doc (fun i => (f i + g i) % 8380417) w1
    rw [show FL .i64 256 (thereR ζ 8 (fun i => (f i + g i) % 8380417)) = FL .i64 256 (fun i => (thereR ζ 8 f i + thereR ζ 8 g i) % 8380417) from fl_congr .i64 256 (there_sum f g), HT.out, HA.out, HQ.out] at h
    exact h⟩
  have H6 : Away (∀ w1 : World, Calls Try.prog 8 #[.agg T, .agg F] w1 fun e w' => e = .returned (.agg X) ∧ Below w1.heap.size w1 w') := ⟨fun w1 => by
    have h := there_doc f w1
    rw [HT.out, HF.out, HX.out] at h
    exact h⟩
  have H7 : Away (∀ w1 : World, Calls Try.prog 8 #[.agg T, .agg G] w1 fun e w' => e = .returned (.agg Y) ∧ Below w1.heap.size w1 w') := ⟨fun w1 => by
    have h := there_doc g w1
    rw [HT.out, HG.out, HY.out] at h
    exact h⟩
  have H8 : Away (∀ w1 : World, Calls Try.prog 6 #[.agg X, .agg Y] w1 fun e w' => e = .returned (.agg Q) ∧ Below w1.heap.size w1 w') := ⟨fun w1 => by
    have h := fadd.add_any (thereR ζ 8 f) (thereR ζ 8 g) w1
    rw [HX.out, HY.out, HQ.out] at h
    exact h⟩
  have HEqP : Away (∀ w1 : World, (Op.equalIn 10000 23 (.agg P) (.agg P)).run Try.prog w1 = .ok true w1) := ⟨fun w1 => by
    have h := equal_poly (pr ζ f g) (pr ζ f g) w1
    rw [HP.out, (same_iff 256 _ _).2 fun _ _ => rfl] at h
    exact h⟩
  have HEqQ : Away (∀ w1 : World, (Op.equalIn 10000 23 (.agg Q) (.agg Q)).run Try.prog w1 = .ok true w1) := ⟨fun w1 => by
    have h := equal_poly (fun i => (thereR ζ 8 f i + thereR ζ 8 g i) % 8380417) (fun i => (thereR ζ 8 f i + thereR ζ 8 g i) % 8380417) w1
    rw [HQ.out, (same_iff 256 _ _).2 fun _ _ => rfl] at h
    exact h⟩
  have Po : Away (P.all (·.oneCell') = true) := ⟨by rw [← HP.out]; exact fl_one _ _ _⟩
  have Pz : Away (z.size = P.size) := ⟨by rw [Hzs.out, ← HP.out, fl_size]⟩
  rw [HF.out, HG.out]
  clear HF HG HA HX HY HP HQ HZ HZt HT hsize hsizeT hi hz0 hz1 hz2 sz
  go_enter Try.func4, Try.ntmps4
  go_wp2_with fail
  refine (H0.out _).mono ?_
  rintro e w1 ⟨rfl, hb1⟩
  obtain ⟨W0, hW0⟩ : ∃ x, (w.alloc (.cells F 23)).alloc (.cells G 23) = x := ⟨_, rfl⟩
  rw [hW0] at hb1
  obtain ⟨r0, rg, hs0, hB0⟩ := two hW0
  have F1 : Away (w1.heap[w.heap.size]? = some (.cells F 23 (0, 0))) := ⟨(hb1.block _ (lt_of_row r0)).trans r0⟩
  have K1 : Away (w1.heap[w.heap.size + 1]? = some (.cells G 23 (0, 0))) := ⟨(hb1.block _ (lt_of_row rg)).trans rg⟩
  have HB1 : Away (Below w.heap.size w w1) := ⟨hB0.trans (hb1.mono hB0.size)⟩
  clear hW0 hb1 r0 rg hs0 hB0
  go_wp2_with (refine wpList_store_new rfl 33 _ _ rfl _ rfl rfl Ti.out Tz.out To.out rfl ?_)
  obtain ⟨W1, hW1⟩ : ∃ x, w1.alloc (.cells T 33) = x := ⟨_, rfl⟩
  rw [hW1]
  obtain ⟨r0, hs1, hB1⟩ := one hW1
  have F2 : Away (W1.heap[w.heap.size]? = some (.cells F 23 (0, 0))) := ⟨(hB1.block _ (lt_of_row F1.out)).trans F1.out⟩
  have K2 : Away (W1.heap[w.heap.size + 1]? = some (.cells G 23 (0, 0))) := ⟨(hB1.block _ (lt_of_row K1.out)).trans K1.out⟩
  have G2 : Away (W1.heap[w1.heap.size]? = some (.cells T 33 (0, 0))) := ⟨r0⟩
  have HB2 : Away (Below w.heap.size w W1) := ⟨HB1.out.trans (hB1.mono HB1.out.size)⟩
  clear hW1 r0 hs1 hB1 F1 K1 HB1
  refine wp_load_row 33 _ rfl w1.heap.size rfl 33 T (0, 0) _ G2.out Try.underlying33 rfl Ti.out ?_
  go_wp2_with fail
  refine wp_load_row 23 _ rfl w.heap.size rfl 23 F (0, 0) _ F2.out Try.underlying23 rfl Fi.out ?_
  go_wp2_with fail
  refine wp_load_row 23 _ rfl (w.heap.size + 1) rfl 23 G (0, 0) _ K2.out Try.underlying23 rfl Gi.out ?_
  go_wp2_with fail
  refine (H1.out _).mono ?_
  rintro e w2 ⟨rfl, hb2⟩
  have F3 : Away (w2.heap[w.heap.size]? = some (.cells F 23 (0, 0))) := ⟨(hb2.block _ (lt_of_row F2.out)).trans F2.out⟩
  have K3 : Away (w2.heap[w.heap.size + 1]? = some (.cells G 23 (0, 0))) := ⟨(hb2.block _ (lt_of_row K2.out)).trans K2.out⟩
  have G3 : Away (w2.heap[w1.heap.size]? = some (.cells T 33 (0, 0))) := ⟨(hb2.block _ (lt_of_row G2.out)).trans G2.out⟩
  have HB3 : Away (Below w.heap.size w w2) := ⟨HB2.out.trans (hb2.mono HB2.out.size)⟩
  clear hb2 F2 K2 G2 HB2
  go_wp2_with (refine wpList_store_new rfl 23 _ _ rfl _ rfl rfl Pi.out Pz.out Po.out rfl ?_)
  obtain ⟨W, hW⟩ : ∃ x, w2.alloc (.cells P 23) = x := ⟨_, rfl⟩
  rw [hW]
  obtain ⟨r0, hs1, hB1⟩ := one hW
  have F4 : Away (W.heap[w.heap.size]? = some (.cells F 23 (0, 0))) := ⟨(hB1.block _ (lt_of_row F3.out)).trans F3.out⟩
  have K4 : Away (W.heap[w.heap.size + 1]? = some (.cells G 23 (0, 0))) := ⟨(hB1.block _ (lt_of_row K3.out)).trans K3.out⟩
  have G4 : Away (W.heap[w1.heap.size]? = some (.cells T 33 (0, 0))) := ⟨(hB1.block _ (lt_of_row G3.out)).trans G3.out⟩
  have R4 : Away (W.heap[w2.heap.size]? = some (.cells P 23 (0, 0))) := ⟨r0⟩
  have HB4 : Away (Below w.heap.size w W) := ⟨HB3.out.trans (hB1.mono HB3.out.size)⟩
  clear hW r0 hs1 hB1 F3 K3 G3 HB3 hz hzt
  have heq := HEqP.out
  have heq2 := HEqQ.out
  refine region_quiet_ops (by kernel_rfl) (by kernel_rfl) (fun ops HO => ?_)
  refine wpQuiet_load rfl 23 _ rfl _ rfl 23 _ _ (fun w' hC => heap_regrown R4.out hC) Try.underlying23 rfl Pi.out ?_
  refine wpQuiet_load rfl 23 _ rfl _ rfl 23 _ _ (fun w' hC => heap_regrown F4.out hC) Try.underlying23 rfl Fi.out ?_
  refine wpQuiet_load rfl 23 _ rfl _ rfl 23 _ _ (fun w' hC => heap_regrown K4.out hC) Try.underlying23 rfl Gi.out ?_
  quiet_step (exact Calls.regrown_of (H2.out _))
  quiet_step (skip)
  quiet_step (skip)
  refine wpQuiet_load (by rw [← HO.out]; kernel_rfl) 23 _ rfl _ rfl 23 _ _ (fun w' hC => heap_regrown R4.out hC) Try.underlying23 rfl Pi.out ?_
  refine wpQuiet_load (by rw [← HO.out]; kernel_rfl) 33 _ rfl _ rfl 33 _ _ (fun w' hC => heap_regrown G4.out hC) Try.underlying33 rfl Ti.out ?_
  refine wpQuiet_load (by rw [← HO.out]; kernel_rfl) 23 _ rfl _ rfl 23 _ _ (fun w' hC => heap_regrown K4.out hC) Try.underlying23 rfl Gi.out ?_
  refine wpQuiet_load (by rw [← HO.out]; kernel_rfl) 23 _ rfl _ rfl 23 _ _ (fun w' hC => heap_regrown F4.out hC) Try.underlying23 rfl Fi.out ?_
  refine wpQuiet_want (by rw [← HO.out]; kernel_rfl) (fun K hK => ?_)
  go_simp
  apply Exists.intro
  refine ⟨fun _ => ?_, hK _ ?_⟩
  exact Calls.regrown_of (H3.out _)
  clear hK K
  refine wpQuiet_want (by rw [← HO.out]; kernel_rfl) (fun K hK => ?_)
  go_simp
  refine hK _ ?_
  clear hK K
  quiet_step (skip)
  quiet_step (skip)
  refine wpQuiet_load (by rw [← HO.out]; kernel_rfl) 33 _ rfl _ rfl 33 _ _ (fun w' hC => heap_regrown G4.out hC) Try.underlying33 rfl Ti.out ?_
  refine wpQuiet_load (by rw [← HO.out]; kernel_rfl) 23 _ rfl _ rfl 23 _ _ (fun w' hC => heap_regrown F4.out hC) Try.underlying23 rfl Fi.out ?_
  refine wpQuiet_load (by rw [← HO.out]; kernel_rfl) 23 _ rfl _ rfl 23 _ _ (fun w' hC => heap_regrown K4.out hC) Try.underlying23 rfl Gi.out ?_
  refine wpQuiet_want (by rw [← HO.out]; kernel_rfl) (fun K hK => ?_)
  go_simp
  apply Exists.intro
  refine ⟨fun _ => ?_, hK _ ?_⟩
  exact Calls.regrown_of (H4.out _)
  clear hK K
  refine wpQuiet_want (by rw [← HO.out]; kernel_rfl) (fun K hK => ?_)
  go_simp
  apply Exists.intro
  refine ⟨fun _ => ?_, hK _ ?_⟩
  exact Calls.regrown_of (H5.out _)
  clear hK K
  refine wpQuiet_load (by rw [← HO.out]; kernel_rfl) 33 _ rfl _ rfl 33 _ _ (fun w' hC => heap_regrown G4.out hC) Try.underlying33 rfl Ti.out ?_
  refine wpQuiet_load (by rw [← HO.out]; kernel_rfl) 23 _ rfl _ rfl 23 _ _ (fun w' hC => heap_regrown F4.out hC) Try.underlying23 rfl Fi.out ?_
  refine wpQuiet_want (by rw [← HO.out]; kernel_rfl) (fun K hK => ?_)
  go_simp
  apply Exists.intro
  refine ⟨fun _ => ?_, hK _ ?_⟩
  exact Calls.regrown_of (H6.out _)
  clear hK K
  refine wpQuiet_load (by rw [← HO.out]; kernel_rfl) 33 _ rfl _ rfl 33 _ _ (fun w' hC => heap_regrown G4.out hC) Try.underlying33 rfl Ti.out ?_
  refine wpQuiet_load (by rw [← HO.out]; kernel_rfl) 23 _ rfl _ rfl 23 _ _ (fun w' hC => heap_regrown K4.out hC) Try.underlying23 rfl Gi.out ?_
  refine wpQuiet_want (by rw [← HO.out]; kernel_rfl) (fun K hK => ?_)
  go_simp
  apply Exists.intro
  refine ⟨fun _ => ?_, hK _ ?_⟩
  exact Calls.regrown_of (H7.out _)
  clear hK K
  refine wpQuiet_want (by rw [← HO.out]; kernel_rfl) (fun K hK => ?_)
  go_simp
  apply Exists.intro
  refine ⟨fun _ => ?_, hK _ ?_⟩
  exact Calls.regrown_of (H8.out _)
  clear hK K
  refine wpQuiet_want (by rw [← HO.out]; kernel_rfl) (fun K hK => ?_)
  go_simp
  refine hK _ ?_
  clear hK K
  quiet_step (skip)
  quiet_step (skip)
  refine wpQuiet_want (by rw [← HO.out]; kernel_rfl) (fun K hK => ?_)
  go_simp
  apply Exists.intro
  refine ⟨fun _ => ?_, hK _ ?_⟩
  exact Calls.regrown_of (H9.out _)
  clear hK K
  quiet_step (skip)
  quiet_step (skip)
  refine wpQuiet_nil ?_
  intro w3 hC
  have HB5 : Away (Below w.heap.size w w3) := ⟨HB4.out.trans (by obtain ⟨pp, rfl⟩ := hC; exact (below_regrown _ _ _).mono HB4.out.size)⟩
  clear hC
  go_wp2_with fail
  go_ret
  exact ⟨rfl, HB5.out⟩
/-! ### The row -/
set_option maxRecDepth 100000 in
theorem lifted (os : Os) (started : os.Started) (H : Type) (enc : TypeId × Value → H) :
    ReturnsInHanded {} Try.checked os 4 .any (Rows.nttProductSpec.pre6 enc Try.prog Try.f4 Rows.nttProductRow.domain false) (Rows.nttProductSpec.post enc Try.prog Try.f4 false true false false) := by
  refine returnsInHanded_of_change (C := Try.checked) own started (by kernel_rfl) Try.func4
    (ChangeSpec.witness6 (enc := enc) (C := Try.checked) false ⟨#[], #[.agg (polys.FL .i64 256 fun _ => 0), .agg (polys.FL .i64 256 fun _ => 0)], []⟩ 8 (by kernel_rfl) (by kernel_rfl) (by kernel_rfl) (by kernel_rfl)) ?_
  intro W base args ds gs before hval0 hW hcnd _
  have hval : ∀ (j : Nat) t v, Try.f4.params[j]? = some t → args[j]? = some v → Value.okWide Try.prog W .any base t v := hval0
  have hW' := hW
  have hlt := hW.lt
  obtain ⟨p, q, hA0, hV, rfl, hfz, hnd⟩ := hW
  have hA : DataW.TrodAll enc Try.prog W 0 (fun _ => true) true Try.f4.params.toList args.toList ds p := hA0
  rw [Try.params4] at hA hval
  obtain ⟨v0, vs0, d0, ds0, p0, q0, hargs, rfl, rfl, h0, r0⟩ := trodAll_cons hA
  obtain ⟨v1, vs1, d1, ds1, p1, q1, rfl, rfl, rfl, h1, r1⟩ := trodAll_cons r0
  obtain ⟨rfl, rfl, rfl⟩ := trodAll_nil r1
  obtain rfl : args = #[v0, v1] := by cases args; simp_all
  obtain ⟨rfl, rfl⟩ := trodVars_none hV
  obtain ⟨a0, rfl, w0⟩ := polys.open_fl (n := 256) (k := .i64) Try.underlying23 Try.underlying3 (by kernel_rfl) (by kernel_rfl) (hval 0 23 v0 rfl rfl) h0
  obtain ⟨a1, rfl, w1⟩ := polys.open_fl (n := 256) (k := .i64) Try.underlying23 Try.underlying3 (by kernel_rfl) (by kernel_rfl) (hval 1 23 v1 rfl rfl) h1
  clear hA0 hval0
  refine (walk a0 a1 W).mono fun e W' ⟨he, bel⟩ => ?_
  subst he
  exact ⟨_, rfl, _, _, _, [], _, [], hW', trodAll_mk1 (shut_bool Try.underlying4 _), (trodAll_cons_mk (Below.trod laidOut (by kernel_rfl) (of_decide_eq_true (by kernel_rfl)) h0 bel (fun x hx => by first | exact absurd hx (by simp) | exact hlt x (by simpa using hx) | exact hlt x (by simp; exact Or.inl hx) | exact hlt x (by simp; exact Or.inr hx) | exact hlt x (by simp; exact Or.inr (Or.inl hx)) | exact hlt x (by simp; exact Or.inr (Or.inr hx)))) (trodAll_cons_mk (Below.trod laidOut (by kernel_rfl) (of_decide_eq_true (by kernel_rfl)) h1 bel (fun x hx => by first | exact absurd hx (by simp) | exact hlt x (by simpa using hx) | exact hlt x (by simp; exact Or.inl hx) | exact hlt x (by simp; exact Or.inr hx) | exact hlt x (by simp; exact Or.inr (Or.inl hx)) | exact hlt x (by simp; exact Or.inr (Or.inr hx)))) trodAll_mk0)), rfl, bel.frame _, fun h => by cases h⟩

theorem over : Rows.nttProductRow.holds Try.pinned (OpenSpec.ofChange Rows.nttProductSpec) :=
  OpenClaim.holds_of_wide 4 Try.f4 rfl rfl rfl rfl rfl rfl rfl ⟨rfl, rfl, rfl, rfl, rfl⟩ rfl rfl rfl rfl rfl (by kernel_rfl) Try.func4 (by kernel_rfl)
    (of_decide_eq_true (by kernel_rfl)) (by unfold Func.isWrapper; first | (rw [if_pos (by decide +kernel)]; kernel_rfl) | (rw [if_neg (by decide +kernel)]; exact ⟨rfl, rfl⟩))
    (fun os started H enc _ => lifted os started H enc)

theorem proved : Rows.NttProductSaid :=
  over
end Go.Proofs.Ytbbealdamampaaa.l8p
