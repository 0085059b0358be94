/-
  The statement FieldCentre (P7.1, P7.2): a centred number is the same modulo m and as near to 0 as may be; a reduced one is the same modulo Prime and from 0 to Prime - 1. Conditions: none; for every two numbers that the form speaks of.
-/
import Derived.Test.YtoplboemnabkpaaRows
import Derived.Test.YtoplboemnabkpaaAwake7
import Derived.ProofKit
import Derived.OpenShut
import Derived.Carry
namespace Go.Proofs.Ytoplboemnabkpaa.l7c
open Go.ChangeShapes Go.WideShapes Go.ChangeAt Go.RowKit
open Go.Proofs.Ytoplboemnabkpaa.arr Go.Proofs.Ytoplboemnabkpaa.mem Go.Proofs.Ytoplboemnabkpaa.fldm Go.Proofs.Ytoplboemnabkpaa.fld1
set_option linter.unusedVariables false
theorem own : ownKnob Try.prog.godebug = none := by kernel_rfl
theorem laidOut : laidOutB Try.prog = true := by kernel_rfl


theorem ce_mod (m x : Int) (h0 : 1 ≤ m) (h1 : m ≤ 1125899906842624) : (x - ce m x).tmod m = 0 ∧ -m + m / 2 - 1 < ce m x ∧ ce m x ≤ m / 2 ∧ -(ce m x) ≤ m / 2 := by
  have e := Int.emod_add_mul_ediv x m
  have hb0 := Int.emod_nonneg x (show m ≠ 0 by omega)
  have hb1 := Int.emod_lt_of_pos x (show 0 < m by omega)
  unfold ce
  rw [if_neg (by omega)]
  by_cases h : m / 2 < x % m
  · rw [if_pos h]
    refine ⟨?_, by omega, by omega, by omega⟩
    apply Int.tmod_eq_zero_of_dvd
    exact ⟨x / m + 1, by rw [Int.mul_add, Int.mul_one]; omega⟩
  · rw [if_neg h]
    refine ⟨?_, by omega, by omega, by omega⟩
    apply Int.tmod_eq_zero_of_dvd
    exact ⟨x / m, by omega⟩
theorem red_mod (x : Int) : (x - x % 8380417).tmod 8380417 = 0 := by
  apply Int.tmod_eq_zero_of_dvd
  exact ⟨x / 8380417, by omega⟩
set_option maxRecDepth 100000 in
set_option maxHeartbeats 2000000 in
theorem walk_far (x m : Int) (w : World) (h : m < 1 ∨ 1125899906842624 < m ∨ 1152921504606846976 < x ∨ x < -1152921504606846976) :
    Calls Try.prog 3 #[.int .i64 x, .int .i64 m] w fun e w' => e = .returned (.bool true) ∧ Below w.heap.size w w' := by
  have Ha := Away.mk (fun w => awake7.awake_any w)
  have h : m < 1 ∨ (¬ m < 1 ∧ 1125899906842624 < m) ∨ (¬ m < 1 ∧ ¬ 1125899906842624 < m ∧ 1152921504606846976 < x) ∨ (¬ m < 1 ∧ ¬ 1125899906842624 < m ∧ ¬ 1152921504606846976 < x ∧ x < -1152921504606846976) := by omega
  rcases h with h1 | ⟨h1, h2⟩ | ⟨h1, h2, h3⟩ | ⟨h1, h2, h3, h4⟩
  all_goals
    go_enter Try.func3, Try.ntmps3
    go_wp2_with fail
    refine (Ha.out _).mono ?_
    rintro e w1 ⟨rfl, hb⟩
    go_wp2_with fail
    go_ret
    exact ⟨rfl, hb⟩
set_option maxRecDepth 100000 in
set_option maxHeartbeats 2000000 in
theorem walk_near (x m : Int) (w : World) (h1 : 1 ≤ m) (h2 : m ≤ 1125899906842624) (h3 : x ≤ 1152921504606846976) (h4 : -1152921504606846976 ≤ x) :
    Calls Try.prog 3 #[.int .i64 x, .int .i64 m] w fun e w' => e = .returned (.bool true) ∧ Below w.heap.size w w' := by
  have Ha := Away.mk (fun w => awake7.awake_any w)
  have Hc : Away (∀ w1 : World, Calls Try.prog 5 #[.int .i64 x, .int .i64 m] w1 fun e w' => e = .returned (.int .i64 (ce m x)) ∧ w1 = w') := ⟨fun w1 => (centre_any x m w1).mono fun _ _ h => ⟨h.1, h.2.symm⟩⟩
  have Hr : Away (∀ w1 : World, Calls Try.prog 6 #[.int .i64 x] w1 fun e w' => e = .returned (.int .i64 (x % 8380417)) ∧ w1 = w') := ⟨fun w1 => (reduce_any x w1).mono fun _ _ h => ⟨h.1, h.2.symm⟩⟩
  obtain ⟨k1, k2, k3, k4⟩ := ce_mod m x h1 h2
  have k5 := red_mod x
  obtain ⟨c, hc⟩ := ex_eq (ce m x)
  rw [hc.out] at k1 k2 k3 k4 Hc
  obtain ⟨d, hd⟩ : ∃ d, m / 2 = d := ⟨_, rfl⟩
  rw [hd] at k2 k3 k4
  have hd1 : 0 ≤ d ∧ d ≤ m := by omega
  have fd : m.tdiv 2 = d := by rw [Int.tdiv_eq_ediv_of_nonneg (by omega)]; exact hd
  have fdw : IntKind.i64.wrap (m.tdiv 2) = d := by rw [fd, IntKind.wrap_i64]; omega
  have k6 : 0 ≤ x % 8380417 ∧ x % 8380417 < 8380417 := by omega
  obtain ⟨r, hr⟩ := ex_eq (x % 8380417)
  rw [hr.out] at k5 k6 Hr
  clear hc hr hd
  have hm0 : ¬ m = 0 := by omega
  have hm1 : (m == 0) = false := beq_eq_false_iff_ne.2 hm0
  have f1 : IntKind.i64.wrap (x - c) = x - c := by rw [IntKind.wrap_i64]; omega
  have f2 : IntKind.i64.wrap (-m) = -m := by rw [IntKind.wrap_i64]; omega
  have f3 : IntKind.i64.wrap (-m + d) = -m + d := by rw [IntKind.wrap_i64]; omega
  have f4 : IntKind.i64.wrap (-m + d - 1) = -m + d - 1 := by rw [IntKind.wrap_i64]; omega
  have f5 : IntKind.i64.wrap (-c) = -c := by rw [IntKind.wrap_i64]; omega
  have f6 : IntKind.i64.wrap (x - r) = x - r := by rw [IntKind.wrap_i64]; omega
  have n1 : ¬ m < 1 := by omega
  have n2 : ¬ 1125899906842624 < m := by omega
  have n3 : ¬ 1152921504606846976 < x := by omega
  have n4 : ¬ x < -1152921504606846976 := by omega
  obtain ⟨k6, k7⟩ := k6
  go_enter Try.func3, Try.ntmps3
  go_wp2_with fail
  refine (Hc.out _).mono ?_
  rintro e w1 ⟨rfl, rfl⟩
  go_wp2_with fail
  refine (Hr.out _).mono ?_
  rintro e w1 ⟨rfl, rfl⟩
  go_wp2_with fail
  refine (Ha.out _).mono ?_
  rintro e w1 ⟨rfl, hb⟩
  go_wp2_with fail
  go_ret
  exact ⟨rfl, hb⟩
theorem walk (x m : Int) (w : World) :
    Calls Try.prog 3 #[.int .i64 x, .int .i64 m] w fun e w' => e = .returned (.bool true) ∧ Below w.heap.size w w' := by
  by_cases h : m < 1 ∨ 1125899906842624 < m ∨ 1152921504606846976 < x ∨ x < -1152921504606846976
  · exact walk_far x m w h
  · exact walk_near x m w (by omega) (by omega) (by omega) (by omega)
/-! ### The row -/
set_option maxRecDepth 100000 in
theorem lifted (os : Os) (started : os.Started) (H : Type) (enc : TypeId × Value → H) :
    ReturnsInHanded {} Try.checked os 3 .any (Rows.fieldCentreSpec.pre6 enc Try.prog Try.f3 Rows.fieldCentreRow.domain false) (Rows.fieldCentreSpec.post enc Try.prog Try.f3 false true false false) := by
  refine returnsInHanded_of_change (C := Try.checked) own started (by kernel_rfl) Try.func3
    (ChangeSpec.witness6 (enc := enc) (C := Try.checked) false ⟨#[], #[.int .i64 0, .int .i64 0], []⟩ 8 (by kernel_rfl) (by kernel_rfl) (by kernel_rfl) (by kernel_rfl)) ?_
  intro W base args ds gs before hval0 hW hcnd _
  have hval : ∀ (j : Nat) t v, Try.f3.params[j]? = some t → args[j]? = some v → Value.okWide Try.prog W .any base t v := hval0
  have hW' := hW
  have hlt := hW.lt
  obtain ⟨p, q, hA0, hV, rfl, hfz, hnd⟩ := hW
  have hA : DataW.TrodAll enc Try.prog W 0 (fun _ => true) true Try.f3.params.toList args.toList ds p := hA0
  rw [Try.params3] at hA hval
  obtain ⟨v0, vs0, d0, ds0, p0, q0, hargs, rfl, rfl, h0, r0⟩ := trodAll_cons hA
  obtain ⟨v1, vs1, d1, ds1, p1, q1, rfl, rfl, rfl, h1, r1⟩ := trodAll_cons r0
  obtain ⟨rfl, rfl, rfl⟩ := trodAll_nil r1
  obtain rfl : args = #[v0, v1] := by cases args; simp_all
  obtain ⟨rfl, rfl⟩ := trodVars_none hV
  obtain ⟨a0, rfl, rfl, rfl, w0⟩ := open_int Try.underlying3 (hval 0 3 v0 rfl rfl) h0
  obtain ⟨a1, rfl, rfl, rfl, w1⟩ := open_int Try.underlying3 (hval 1 3 v1 rfl rfl) h1
  clear hA0 hval0
  refine (walk a0 a1 W).mono fun e W' ⟨he, bel⟩ => ?_
  subst he
  exact ⟨_, rfl, _, _, _, [], _, [], hW', trodAll_mk1 (shut_bool Try.underlying4 _), (trodAll_cons_mk (Below.trod laidOut (by kernel_rfl) (of_decide_eq_true (by kernel_rfl)) h0 bel (fun x hx => by first | exact absurd hx (by simp) | exact hlt x (by simpa using hx) | exact hlt x (by simp; exact Or.inl hx) | exact hlt x (by simp; exact Or.inr hx) | exact hlt x (by simp; exact Or.inr (Or.inl hx)) | exact hlt x (by simp; exact Or.inr (Or.inr hx)))) (trodAll_cons_mk (Below.trod laidOut (by kernel_rfl) (of_decide_eq_true (by kernel_rfl)) h1 bel (fun x hx => by first | exact absurd hx (by simp) | exact hlt x (by simpa using hx) | exact hlt x (by simp; exact Or.inl hx) | exact hlt x (by simp; exact Or.inr hx) | exact hlt x (by simp; exact Or.inr (Or.inl hx)) | exact hlt x (by simp; exact Or.inr (Or.inr hx)))) trodAll_mk0)), rfl, bel.frame _, fun h => by cases h⟩

theorem over : Rows.fieldCentreRow.holds Try.pinned (OpenSpec.ofChange Rows.fieldCentreSpec) :=
  OpenClaim.holds_of_wide 3 Try.f3 rfl rfl rfl rfl rfl rfl rfl ⟨rfl, rfl, rfl, rfl, rfl⟩ rfl rfl rfl rfl rfl (by kernel_rfl) Try.func3 (by kernel_rfl)
    (of_decide_eq_true (by kernel_rfl)) (by unfold Func.isWrapper; first | (rw [if_pos (by decide +kernel)]; kernel_rfl) | (rw [if_neg (by decide +kernel)]; exact ⟨rfl, rfl⟩))
    (fun os started H enc _ => lifted os started H enc)

theorem proved : Rows.FieldCentreSaid :=
  over
end Go.Proofs.Ytoplboemnabkpaa.l7c
