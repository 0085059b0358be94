/-
  The statement NttBack (P8.6): with the document's tables, back undoes there and there undoes back, for every polynomial. Conditions: none.
-/
import Derived.Test.YtbbealdamampaaaRows
import Derived.Test.YtbbealdamampaaaAwake8
import Derived.Test.YtbbealdamampaaaFAdd
import Derived.Test.YtbbealdamampaaaBase
import Derived.ProofKit
import Derived.OpenShut
import Derived.Carry
namespace Go.Proofs.Ytbbealdamampaaa.l8b
open Go.ChangeShapes Go.WideShapes Go.ChangeAt Go.RowKit
open Go.Proofs.Ytbbealdamampaaa.arr Go.Proofs.Ytbbealdamampaaa.mem Go.Proofs.Ytbbealdamampaaa.stil Go.Proofs.Ytbbealdamampaaa.tabv Go.Proofs.Ytbbealdamampaaa.polys Go.Proofs.Ytbbealdamampaaa.polt Go.Proofs.Ytbbealdamampaaa.nttm Go.Proofs.Ytbbealdamampaaa.nttt Go.Proofs.Ytbbealdamampaaa.nttl Go.Proofs.Ytbbealdamampaaa.nthere Go.Proofs.Ytbbealdamampaaa.nprod Go.Proofs.Ytbbealdamampaaa.nttc Go.Proofs.Ytbbealdamampaaa.awake8 Go.Proofs.Ytbbealdamampaaa.qops
set_option linter.unusedVariables false
theorem own : ownKnob Try.prog.godebug = none := by kernel_rfl
theorem laidOut : laidOutB Try.prog = true := by kernel_rfl


theorem add_zero (f : Nat → Int) : (fun i => (f i + (fun _ => 0 : Nat → Int) i) % 8380417) = red f := by
  funext i
  show (f i + 0) % 8380417 = f i % 8380417
  rw [Int.add_zero]
set_option maxRecDepth 100000 in
set_option maxHeartbeats 4000000 in
theorem walk (f : Nat → Int) (w : World) :
    Calls Try.prog 3 #[.agg (FL .i64 256 f)] w fun e w' => e = .returned (.bool true) ∧ Below w.heap.size w w' := by
  obtain ⟨hzt, hsizeT⟩ := zero_of_info infoTT
  obtain ⟨Zt, HZt⟩ := ex_eq built.TZ
  rw [HZt.out] at hzt
  have HZts : Away (Zt.size = 465) := ⟨by rw [← HZt.out]; exact built.tz_size⟩
  obtain ⟨hz, hsize⟩ := zero_of_info infoP
  obtain ⟨i0, hi, hz0, hz1, hz2⟩ := tparts infoPoly
  obtain ⟨z, HZ⟩ := ex_eq (FL .i64 256 fun _ => 0)
  rw [HZ.out] at hz hz0
  have Hzs : Away (z.size = 256) := ⟨by rw [← HZ.out]; exact fl_size _ _ _⟩
  obtain ⟨T, HT⟩ := ex_eq TA
  have Ti : Away ((Try.prog.info? 33).map (·.size) = some T.size) := ⟨by rw [← HT.out, ta_size]; exact hsizeT⟩
  have To : Away (T.all (·.oneCell') = true) := ⟨by rw [← HT.out]; exact ta_one⟩
  have Tz : Away (Zt.size = T.size) := ⟨by rw [HZts.out, ← HT.out, ta_size]⟩
  have sz : ∀ h : Nat → Int, (Try.prog.info? 23).map (·.size) = some (FL .i64 256 h).size := fun h => by rw [fl_size]; exact hsize
  have H0 : Away (∀ w1 : World, Calls Try.prog 5 #[] w1 fun e w' => e = .returned (.agg T) ∧ Below w1.heap.size w1 w') := ⟨fun w1 => by rw [← HT.out]; exact make.make_any w1⟩
  have H9 := Away.mk (fun w1 : World => awake8.awake_any w1)
  obtain ⟨F, HF⟩ := ex_eq (FL .i64 256 (f))
  have Fi : Away ((Try.prog.info? 23).map (·.size) = some F.size) := ⟨by rw [← HF.out]; exact sz _⟩
  obtain ⟨X, HX⟩ := ex_eq (FL .i64 256 (thereR ζ 8 f))
  have Xi : Away ((Try.prog.info? 23).map (·.size) = some X.size) := ⟨by rw [← HX.out]; exact sz _⟩
  obtain ⟨Y, HY⟩ := ex_eq (FL .i64 256 (fun i => (backR ζ 8 f i * 8347681) % 8380417))
  have Yi : Away ((Try.prog.info? 23).map (·.size) = some Y.size) := ⟨by rw [← HY.out]; exact sz _⟩
  obtain ⟨R, HR⟩ := ex_eq (FL .i64 256 (red f))
  have Ri : Away ((Try.prog.info? 23).map (·.size) = some R.size) := ⟨by rw [← HR.out]; exact sz _⟩
  have H1 : Away (∀ w1 : World, Calls Try.prog 6 #[.agg F, .agg z] w1 fun e w' => e = .returned (.agg R) ∧ Below w1.heap.size w1 w') := ⟨fun w1 => by
    have h := fadd.add_any f (fun _ => 0) w1
    rw [add_zero, HF.out, HZ.out, HR.out] at h
    exact h⟩
  have H2 : Away (∀ w1 : World, Calls Try.prog 8 #[.agg T, .agg F] w1 fun e w' => e = .returned (.agg X) ∧ Below w1.heap.size w1 w') := ⟨fun w1 => by
    have h := there_doc f w1
    rw [HT.out, HF.out, HX.out] at h
    exact h⟩
  have H3 : Away (∀ w1 : World, Calls Try.prog 7 #[.agg T, .agg X] w1 fun e w' => e = .returned (.agg R) ∧ Below w1.heap.size w1 w') := ⟨fun w1 => by
    have h := back_doc (thereR ζ 8 f) w1
    rw [show FL .i64 256 (fun i => (backR ζ 8 (thereR ζ 8 f) i * 8347681) % 8380417) = FL .i64 256 (red f) from fl_congr .i64 256 (back_there f), HT.out, HX.out, HR.out] at h
    exact h⟩
  have H4 : Away (∀ w1 : World, Calls Try.prog 7 #[.agg T, .agg F] w1 fun e w' => e = .returned (.agg Y) ∧ Below w1.heap.size w1 w') := ⟨fun w1 => by
    have h := back_doc f w1
    rw [HT.out, HF.out, HY.out] at h
    exact h⟩
  have H5 : Away (∀ w1 : World, Calls Try.prog 8 #[.agg T, .agg Y] w1 fun e w' => e = .returned (.agg R) ∧ Below w1.heap.size w1 w') := ⟨fun w1 => by
    have h := there_doc (fun i => (backR ζ 8 f i * 8347681) % 8380417) w1
    rw [show FL .i64 256 (thereR ζ 8 (fun i => (backR ζ 8 f i * 8347681) % 8380417)) = FL .i64 256 (red f) from fl_congr .i64 256 (there_back f), HT.out, HY.out, HR.out] at h
    exact h⟩
  have HEqR : Away (∀ w1 : World, (Op.equalIn 10000 23 (.agg R) (.agg R)).run Try.prog w1 = .ok true w1) := ⟨fun w1 => by
    have h := equal_poly (red f) (red f) w1
    rw [HR.out, (same_iff 256 _ _).2 fun _ _ => rfl] at h
    exact h⟩
  have Ro : Away (R.all (·.oneCell') = true) := ⟨by rw [← HR.out]; exact fl_one _ _ _⟩
  have Rz : Away (z.size = R.size) := ⟨by rw [Hzs.out, ← HR.out, fl_size]⟩
  rw [HF.out]
  clear HF HX HY HR HZ HZt HT hsize hsizeT hi hz0 hz1 hz2 sz
  go_enter Try.func3, Try.ntmps3
  go_wp2_with fail
  refine (H0.out _).mono ?_
  rintro e w1 ⟨rfl, hb1⟩
  obtain ⟨W0, hW0⟩ : ∃ x, w.alloc (.cells F 23) = x := ⟨_, rfl⟩
  rw [hW0] at hb1
  obtain ⟨r0, hs0, hB0⟩ := one hW0
  have F1 : Away (w1.heap[w.heap.size]? = some (.cells F 23 (0, 0))) := ⟨(hb1.block _ (lt_of_row r0)).trans r0⟩
  have HB1 : Away (Below w.heap.size w w1) := ⟨hB0.trans (hb1.mono hB0.size)⟩
  clear hW0 hb1 r0 hs0 hB0
  go_wp2_with (refine wpList_store_new rfl 33 _ _ rfl _ rfl rfl Ti.out Tz.out To.out rfl ?_)
  obtain ⟨W1, hW1⟩ : ∃ x, w1.alloc (.cells T 33) = x := ⟨_, rfl⟩
  rw [hW1]
  obtain ⟨r0, hs1, hB1⟩ := one hW1
  have F2 : Away (W1.heap[w.heap.size]? = some (.cells F 23 (0, 0))) := ⟨(hB1.block _ (lt_of_row F1.out)).trans F1.out⟩
  have G2 : Away (W1.heap[w1.heap.size]? = some (.cells T 33 (0, 0))) := ⟨r0⟩
  have HB2 : Away (Below w.heap.size w W1) := ⟨HB1.out.trans (hB1.mono HB1.out.size)⟩
  clear hW1 r0 hs1 hB1 F1 HB1
  refine wp_load_row 23 _ rfl w.heap.size rfl 23 F (0, 0) _ F2.out Try.underlying23 rfl Fi.out ?_
  go_wp2_with fail
  refine (H1.out _).mono ?_
  rintro e w2 ⟨rfl, hb2⟩
  have F3 : Away (w2.heap[w.heap.size]? = some (.cells F 23 (0, 0))) := ⟨(hb2.block _ (lt_of_row F2.out)).trans F2.out⟩
  have G3 : Away (w2.heap[w1.heap.size]? = some (.cells T 33 (0, 0))) := ⟨(hb2.block _ (lt_of_row G2.out)).trans G2.out⟩
  have HB3 : Away (Below w.heap.size w w2) := ⟨HB2.out.trans (hb2.mono HB2.out.size)⟩
  clear hb2 F2 G2 HB2
  go_wp2_with (refine wpList_store_new rfl 23 _ _ rfl _ rfl rfl Ri.out Rz.out Ro.out rfl ?_)
  obtain ⟨W, hW⟩ : ∃ x, w2.alloc (.cells R 23) = x := ⟨_, rfl⟩
  rw [hW]
  obtain ⟨r0, hs1, hB1⟩ := one hW
  have F4 : Away (W.heap[w.heap.size]? = some (.cells F 23 (0, 0))) := ⟨(hB1.block _ (lt_of_row F3.out)).trans F3.out⟩
  have G4 : Away (W.heap[w1.heap.size]? = some (.cells T 33 (0, 0))) := ⟨(hB1.block _ (lt_of_row G3.out)).trans G3.out⟩
  have R4 : Away (W.heap[w2.heap.size]? = some (.cells R 23 (0, 0))) := ⟨r0⟩
  have HB4 : Away (Below w.heap.size w W) := ⟨HB3.out.trans (hB1.mono HB3.out.size)⟩
  clear hW r0 hs1 hB1 F3 G3 HB3 hz hzt
  have heq := HEqR.out
  refine region_quiet_ops (by kernel_rfl) (by kernel_rfl) (fun ops HO => ?_)
  refine wpQuiet_load rfl 33 _ rfl _ rfl 33 _ _ (fun w' hC => heap_regrown G4.out hC) Try.underlying33 rfl Ti.out ?_
  refine wpQuiet_load rfl 33 _ rfl _ rfl 33 _ _ (fun w' hC => heap_regrown G4.out hC) Try.underlying33 rfl Ti.out ?_
  refine wpQuiet_load rfl 23 _ rfl _ rfl 23 _ _ (fun w' hC => heap_regrown F4.out hC) Try.underlying23 rfl Fi.out ?_
  quiet_step (exact Calls.regrown_of (H2.out _))
  quiet_step (exact Calls.regrown_of (H3.out _))
  refine wpQuiet_load rfl 23 _ rfl _ rfl 23 _ _ (fun w' hC => heap_regrown R4.out hC) Try.underlying23 rfl Ri.out ?_
  quiet_step (skip)
  quiet_step (skip)
  refine wpQuiet_load (by rw [← HO.out]; kernel_rfl) 33 _ rfl _ rfl 33 _ _ (fun w' hC => heap_regrown G4.out hC) Try.underlying33 rfl Ti.out ?_
  refine wpQuiet_load (by rw [← HO.out]; kernel_rfl) 33 _ rfl _ rfl 33 _ _ (fun w' hC => heap_regrown G4.out hC) Try.underlying33 rfl Ti.out ?_
  refine wpQuiet_load (by rw [← HO.out]; kernel_rfl) 23 _ rfl _ rfl 23 _ _ (fun w' hC => heap_regrown F4.out hC) Try.underlying23 rfl Fi.out ?_
  refine wpQuiet_want (by rw [← HO.out]; kernel_rfl) (fun K hK => ?_)
  go_simp
  apply Exists.intro
  refine ⟨fun _ => ?_, hK _ ?_⟩
  exact Calls.regrown_of (H4.out _)
  clear hK K
  refine wpQuiet_want (by rw [← HO.out]; kernel_rfl) (fun K hK => ?_)
  go_simp
  apply Exists.intro
  refine ⟨fun _ => ?_, hK _ ?_⟩
  exact Calls.regrown_of (H5.out _)
  clear hK K
  refine wpQuiet_load (by rw [← HO.out]; kernel_rfl) 23 _ rfl _ rfl 23 _ _ (fun w' hC => heap_regrown R4.out hC) Try.underlying23 rfl Ri.out ?_
  refine wpQuiet_want (by rw [← HO.out]; kernel_rfl) (fun K hK => ?_)
  go_simp
  refine hK _ ?_
  clear hK K
  quiet_step (skip)
  quiet_step (skip)
  refine wpQuiet_want (by rw [← HO.out]; kernel_rfl) (fun K hK => ?_)
  go_simp
  apply Exists.intro
  refine ⟨fun _ => ?_, hK _ ?_⟩
  exact Calls.regrown_of (H9.out _)
  clear hK K
  quiet_step (skip)
  quiet_step (skip)
  refine wpQuiet_nil ?_
  intro w3 hC
  have HB5 : Away (Below w.heap.size w w3) := ⟨HB4.out.trans (by obtain ⟨pp, rfl⟩ := hC; exact (below_regrown _ _ _).mono HB4.out.size)⟩
  clear hC
  go_wp2_with fail
  go_ret
  exact ⟨rfl, HB5.out⟩
/-! ### The row -/
set_option maxRecDepth 100000 in
theorem lifted (os : Os) (started : os.Started) (H : Type) (enc : TypeId × Value → H) :
    ReturnsInHanded {} Try.checked os 3 .any (Rows.nttBackSpec.pre6 enc Try.prog Try.f3 Rows.nttBackRow.domain false) (Rows.nttBackSpec.post enc Try.prog Try.f3 false true false false) := by
  refine returnsInHanded_of_change (C := Try.checked) own started (by kernel_rfl) Try.func3
    (ChangeSpec.witness6 (enc := enc) (C := Try.checked) false ⟨#[], #[.agg (polys.FL .i64 256 fun _ => 0)], []⟩ 8 (by kernel_rfl) (by kernel_rfl) (by kernel_rfl) (by kernel_rfl)) ?_
  intro W base args ds gs before hval0 hW hcnd _
  have hval : ∀ (j : Nat) t v, Try.f3.params[j]? = some t → args[j]? = some v → Value.okWide Try.prog W .any base t v := hval0
  have hW' := hW
  have hlt := hW.lt
  obtain ⟨p, q, hA0, hV, rfl, hfz, hnd⟩ := hW
  have hA : DataW.TrodAll enc Try.prog W 0 (fun _ => true) true Try.f3.params.toList args.toList ds p := hA0
  rw [Try.params3] at hA hval
  obtain ⟨v0, vs0, d0, ds0, p0, q0, hargs, rfl, rfl, h0, r0⟩ := trodAll_cons hA
  obtain ⟨rfl, rfl, rfl⟩ := trodAll_nil r0
  obtain rfl : args = #[v0] := by cases args; simp_all
  obtain ⟨rfl, rfl⟩ := trodVars_none hV
  obtain ⟨a0, rfl, w0⟩ := polys.open_fl (n := 256) (k := .i64) Try.underlying23 Try.underlying3 (by kernel_rfl) (by kernel_rfl) (hval 0 23 v0 rfl rfl) h0
  clear hA0 hval0
  refine (walk a0 W).mono fun e W' ⟨he, bel⟩ => ?_
  subst he
  exact ⟨_, rfl, _, _, _, [], _, [], hW', trodAll_mk1 (shut_bool Try.underlying4 _), (trodAll_cons_mk (Below.trod laidOut (by kernel_rfl) (of_decide_eq_true (by kernel_rfl)) h0 bel (fun x hx => by first | exact absurd hx (by simp) | exact hlt x (by simpa using hx) | exact hlt x (by simp; exact Or.inl hx) | exact hlt x (by simp; exact Or.inr hx) | exact hlt x (by simp; exact Or.inr (Or.inl hx)) | exact hlt x (by simp; exact Or.inr (Or.inr hx)))) trodAll_mk0), rfl, bel.frame _, fun h => by cases h⟩

theorem over : Rows.nttBackRow.holds Try.pinned (OpenSpec.ofChange Rows.nttBackSpec) :=
  OpenClaim.holds_of_wide 3 Try.f3 rfl rfl rfl rfl rfl rfl rfl ⟨rfl, rfl, rfl, rfl, rfl⟩ rfl rfl rfl rfl rfl (by kernel_rfl) Try.func3 (by kernel_rfl)
    (of_decide_eq_true (by kernel_rfl)) (by unfold Func.isWrapper; first | (rw [if_pos (by decide +kernel)]; kernel_rfl) | (rw [if_neg (by decide +kernel)]; exact ⟨rfl, rfl⟩))
    (fun os started H enc _ => lifted os started H enc)

theorem proved : Rows.NttBackSaid :=
  over
end Go.Proofs.Ytbbealdamampaaa.l8b
