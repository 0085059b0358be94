/-
  The statement RoundRight (P9.2): the four sets are valid, and which parameters are is what the document says, for every eight numbers. Conditions: none.
-/
import Derived.Test.YtfgigpmhncfpbaaRows
import Derived.Test.YtfgigpmhncfpbaaAw9
import Derived.Test.YtfgigpmhncfpbaaRfR
import Derived.Test.YtfgigpmhncfpbaaLat
import Derived.Test.YtfgigpmhncfpbaaBase
import Derived.ProofKit
import Derived.OpenShut
import Derived.Carry
namespace Go.Proofs.Ytfgigpmhncfpbaa.l9r
open Go.ChangeShapes Go.WideShapes Go.ChangeAt Go.RowKit
open Go.Proofs.Ytfgigpmhncfpbaa.arr Go.Proofs.Ytfgigpmhncfpbaa.mem Go.Proofs.Ytfgigpmhncfpbaa.polt Go.Proofs.Ytfgigpmhncfpbaa.rndm Go.Proofs.Ytfgigpmhncfpbaa.awake9 Go.Proofs.Ytfgigpmhncfpbaa.qops
set_option linter.unusedVariables false
theorem own : ownKnob Try.prog.godebug = none := by kernel_rfl
theorem laidOut : laidOutB Try.prog = true := by kernel_rfl


theorem rights (w1 : World) (k : Nat) (h1 : 1 ≤ k) (h2 : k ≤ 4) : ∃ S : Array Value, S.size = 8 ∧ S.all (·.oneCell') = true ∧ (∀ w1, Calls Try.prog 5 #[.int .i64 (k : Int)] w1 fun e w' => e = .returned (.tuple #[.agg S, .int .i64 0]) ∧ Below w1.heap.size w1 w') ∧
    (∀ w1, Calls Try.prog 6 #[.agg S] w1 fun e w' => e = .returned (.bool true) ∧ Below w1.heap.size w1 w') := by
  obtain rfl | rfl | rfl | rfl : k = 1 ∨ k = 2 ∨ k = 3 ∨ k = 4 := by omega
  · exact ⟨set1, rfl, by simp [set1, Value.oneCell'], rset.set_1, fun w1 => by have h := rright.right_any 4 4 2 39 131072 95232 80 128 w1; rw [show latt 4 4 2 39 131072 95232 80 128 = true from by decide] at h; exact h⟩
  · exact ⟨set2, rfl, by simp [set2, Value.oneCell'], rset.set_2, fun w1 => by have h := rright.right_any 6 5 4 49 524288 261888 55 192 w1; rw [show latt 6 5 4 49 524288 261888 55 192 = true from by decide] at h; exact h⟩
  · exact ⟨set3, rfl, by simp [set3, Value.oneCell'], rset.set_3, fun w1 => by have h := rright.right_any 8 7 2 60 524288 261888 75 256 w1; rw [show latt 8 7 2 60 524288 261888 75 256 = true from by decide] at h; exact h⟩
  · exact ⟨set4, rfl, by simp [set4, Value.oneCell'], rset.set_4, fun w1 => by have h := rright.right_any 1 1 2 20 131072 95232 60 128 w1; rw [show latt 1 1 2 20 131072 95232 60 128 = true from by decide] at h; exact h⟩
set_option maxRecDepth 100000 in
set_option maxHeartbeats 4000000 in
theorem walk (k l e t a b o s : Int) (w : World) :
    Calls Try.prog 3 #[.agg #[.int .i64 k, .int .i64 l, .int .i64 e, .int .i64 t, .int .i64 a, .int .i64 b, .int .i64 o, .int .i64 s]] w fun e w' => e = .returned (.bool true) ∧ Below w.heap.size w w' := by
  obtain ⟨hy, hsizeL⟩ := zero_of_info rset.infoL
  obtain ⟨y, HY⟩ := ex_eq set0
  rw [HY.out] at hy
  have Hys : Away (y.size = 8) := ⟨by rw [← HY.out]; rfl⟩
  have Hsi : Away ((Try.prog.info? 23).map (·.size) = some 8) := ⟨hsizeL⟩
  have Hr := Away.mk (fun w1 => rright.right_any k l e t a b o s w1)
  have Hf := Away.mk (fun w1 => rfright.right_any k l e t a b o s w1)
  obtain ⟨B, HB⟩ := ex_eq (latt k l e t a b o s)
  rw [HB.out] at Hr Hf
  obtain ⟨L, HL⟩ := ex_eq (#[.int .i64 k, .int .i64 l, .int .i64 e, .int .i64 t, .int .i64 a, .int .i64 b, .int .i64 o, .int .i64 s] : Array Value)
  have Li : Away ((Try.prog.info? 23).map (·.size) = some L.size) := ⟨by rw [← HL.out]; exact hsizeL⟩
  rw [HL.out] at Hr Hf ⊢
  have Ha := Away.mk (fun w1 : World => awake9.awake_any w1)
  have Hset := Away.mk (fun (k : Nat) h1 h2 => rights w k h1 h2)
  clear HB HL HY hsizeL
  go_enter Try.func3, Try.ntmps3
  go_wp2_with fail
  obtain ⟨W, hW⟩ : ∃ x, w.alloc (.cells L 23) = x := ⟨_, rfl⟩
  obtain ⟨r0, hWs, hWb⟩ := one hW
  rw [hW]
  have R0 := Away.mk r0
  have HWb := Away.mk hWb
  clear hW r0 hWs hWb
  go_loopw [3] (fun v wr => ∃ i : Nat, 1 ≤ i ∧ i ≤ 5 ∧ v = .int .i64 (i : Int) ∧ Away (Below W.heap.size W wr)) (fun v _ => 5 - (intOf v).toNat)
  case atStart => exact ⟨1, Nat.le_refl _, by decide, rfl, ⟨Below.refl _ _⟩⟩
  case round =>
    obtain ⟨i, hi1, hi, rfl, A0⟩ := hrel
    by_cases hlt : i ≤ 4
    · have hiz : (i : Int) ≤ 4 := by omega
      obtain ⟨S, s1, s2, s3, s4⟩ := Hset.out i hi1 hlt
      have Si : Away ((Try.prog.info? 23).map (·.size) = some S.size) := ⟨by rw [s1]; exact Hsi.out⟩
      have Sz : Away (y.size = S.size) := ⟨by rw [Hys.out, s1]⟩
      have So := Away.mk s2
      have S3 := Away.mk s3
      have S4 := Away.mk s4
      clear s1 s2 s3 s4
      go_wp2_with fail
      refine (S3.out _).mono ?_
      rintro e w1 ⟨rfl, hb1⟩
      have A1 : Away (Below W.heap.size W w1) := ⟨A0.out.trans (hb1.mono A0.out.size)⟩
      clear hb1 A0
      obtain ⟨V, hV⟩ : ∃ x, w1.alloc (.cells S 23) = x := ⟨_, rfl⟩
      have HV := Away.mk hV
      obtain ⟨v0, hVs, hVb⟩ := one hV
      have V0 := Away.mk v0
      have A2 : Away (Below W.heap.size W V) := ⟨A1.out.trans (hVb.mono A1.out.size)⟩
      clear hV v0 hVs hVb A1
      go_wp2_with (first
        | (refine wpList_store_new rfl 23 _ _ rfl _ rfl rfl Si.out Sz.out So.out rfl ?_)
        | (rw [HV.out])
        | (refine wpList_load_want rfl 23 _ rfl w1.heap.size rfl 23 S _ V0.out Try.underlying23 rfl Si.out ?_))
      refine (S4.out _).mono ?_
      rintro e w2 ⟨rfl, hb2⟩
      have A3 : Away (Below W.heap.size W w2) := ⟨A2.out.trans (hb2.mono A2.out.size)⟩
      clear hb2 A2
      go_wp2_with fail
      go_roundw
      case rel => exact ⟨i + 1, by omega, by omega, by go_num, A3⟩
      case measure => simp [intOf]; omega
    · obtain rfl : i = 5 := by omega
      simp only [Int.cast_ofNat_Int]
      have R1 : Away (wr.heap[w.heap.size]? = some (.cells L 23 (0, 0))) := ⟨(A0.out.block _ (lt_of_row R0.out)).trans R0.out⟩
      have HB4 : Away (Below w.heap.size w wr) := ⟨HWb.out.trans (A0.out.mono HWb.out.size)⟩
      clear A0 hy
      go_wp2_with fail
      refine region_quiet_ops (by kernel_rfl) (by kernel_rfl) (fun ops HO => ?_)
      refine wpQuiet_load rfl 23 _ rfl _ rfl 23 _ _ (fun w' hC => heap_regrown R1.out hC) Try.underlying23 rfl Li.out ?_
      quiet_step (exact Calls.regrown_of (Hr.out _))
      refine wpQuiet_load rfl 23 _ rfl _ rfl 23 _ _ (fun w' hC => heap_regrown R1.out hC) Try.underlying23 rfl Li.out ?_
      quiet_step (exact Calls.regrown_of (Hf.out _))
      quiet_step (skip)
      quiet_step (skip)
      refine wpQuiet_want (by rw [← HO.out]; kernel_rfl) (fun K hK => ?_)
      go_simp
      apply Exists.intro
      refine ⟨fun _ => ?_, hK _ ?_⟩
      exact Calls.regrown_of (Ha.out _)
      clear hK K
      quiet_step (skip)
      quiet_step (skip)
      refine wpQuiet_nil ?_
      intro w3 hC
      have HB5 : Away (Below w.heap.size w w3) := ⟨HB4.out.trans (by obtain ⟨pp, rfl⟩ := hC; exact (below_regrown _ _ _).mono HB4.out.size)⟩
      clear hC
      go_wp2_with fail
      go_ret
      exact ⟨rfl, HB5.out⟩
/-! ### The row -/
set_option maxRecDepth 100000 in
theorem lifted (os : Os) (started : os.Started) (H : Type) (enc : TypeId × Value → H) :
    ReturnsInHanded {} Try.checked os 3 .any (Rows.roundRightSpec.pre6 enc Try.prog Try.f3 Rows.roundRightRow.domain false) (Rows.roundRightSpec.post enc Try.prog Try.f3 false true false false) := by
  refine returnsInHanded_of_change (C := Try.checked) own started (by kernel_rfl) Try.func3
    (ChangeSpec.witness6 (enc := enc) (C := Try.checked) false ⟨#[], #[.agg #[.int .i64 0, .int .i64 0, .int .i64 0, .int .i64 0, .int .i64 0, .int .i64 0, .int .i64 0, .int .i64 0]], []⟩ 8 (by kernel_rfl) (by kernel_rfl) (by kernel_rfl) (by kernel_rfl)) ?_
  intro W base args ds gs before hval0 hW hcnd _
  have hval : ∀ (j : Nat) t v, Try.f3.params[j]? = some t → args[j]? = some v → Value.okWide Try.prog W .any base t v := hval0
  have hW' := hW
  have hlt := hW.lt
  obtain ⟨p, q, hA0, hV, rfl, hfz, hnd⟩ := hW
  have hA : DataW.TrodAll enc Try.prog W 0 (fun _ => true) true Try.f3.params.toList args.toList ds p := hA0
  rw [Try.params3] at hA hval
  obtain ⟨v0, vs0, d0, ds0, p0, q0, hargs, rfl, rfl, h0, r0⟩ := trodAll_cons hA
  obtain ⟨rfl, rfl, rfl⟩ := trodAll_nil r0
  obtain rfl : args = #[v0] := by cases args; simp_all
  obtain ⟨rfl, rfl⟩ := trodVars_none hV
  obtain ⟨k0, l0, e0, t0, a0, b0, o0, s0, rfl⟩ := lattm.open_lattice (hval 0 23 v0 rfl rfl) h0
  clear hA0 hval0
  refine (walk k0 l0 e0 t0 a0 b0 o0 s0 W).mono fun e W' ⟨he, bel⟩ => ?_
  subst he
  exact ⟨_, rfl, _, _, _, [], _, [], hW', trodAll_mk1 (shut_bool Try.underlying4 _), (trodAll_cons_mk (Below.trod laidOut (by kernel_rfl) (of_decide_eq_true (by kernel_rfl)) h0 bel (fun x hx => by first | exact absurd hx (by simp) | exact hlt x (by simpa using hx) | exact hlt x (by simp; exact Or.inl hx) | exact hlt x (by simp; exact Or.inr hx) | exact hlt x (by simp; exact Or.inr (Or.inl hx)) | exact hlt x (by simp; exact Or.inr (Or.inr hx)))) trodAll_mk0), rfl, bel.frame _, fun h => by cases h⟩

theorem over : Rows.roundRightRow.holds Try.pinned (OpenSpec.ofChange Rows.roundRightSpec) :=
  OpenClaim.holds_of_wide 3 Try.f3 rfl rfl rfl rfl rfl rfl rfl ⟨rfl, rfl, rfl, rfl, rfl⟩ rfl rfl rfl rfl rfl (by kernel_rfl) Try.func3 (by kernel_rfl)
    (of_decide_eq_true (by kernel_rfl)) (by unfold Func.isWrapper; first | (rw [if_pos (by decide +kernel)]; kernel_rfl) | (rw [if_neg (by decide +kernel)]; exact ⟨rfl, rfl⟩))
    (fun os started H enc _ => lifted os started H enc)

theorem proved : Rows.RoundRightSaid :=
  over
end Go.Proofs.Ytfgigpmhncfpbaa.l9r
