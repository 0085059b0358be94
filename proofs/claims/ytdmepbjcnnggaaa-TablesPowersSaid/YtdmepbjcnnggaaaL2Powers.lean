/-
  The statement TablesPowers (P2.4): powers add up, and a power of the prime less 1 is 1. Conditions: none; for every input that the form speaks of.
-/
import Derived.Test.YtdmepbjcnnggaaaRows
import Derived.Test.YtdmepbjcnnggaaaAwake2
import Derived.ProofKit
import Derived.OpenShut
import Derived.Carry
namespace Go.Proofs.Ytdmepbjcnnggaaa.lpowers
open Go.ChangeShapes Go.WideShapes Go.ChangeAt Go.RowKit
open Go.Proofs.Ytdmepbjcnnggaaa.tabm Go.Proofs.Ytdmepbjcnnggaaa.arr
open Go.Proofs.Ytdmepbjcnnggaaa.power (power_neg power_nn mul_bd)
set_option linter.unusedVariables false
theorem own : ownKnob Try.prog.godebug = none := by kernel_rfl
theorem laidOut : laidOutB Try.prog = true := by kernel_rfl


set_option maxHeartbeats 1000000 in
theorem out1 (x n m : Int) (w : World) (h1 : x < 0) :
    Calls Try.prog 6 #[.int .i64 x, .int .i64 n, .int .i64 m] w fun e w' => e = .returned (.bool true) ∧ Below w.heap.size w w' := by
  go_enter Try.func6, Try.ntmps6
  go_wp2_with fail
  all_goals
    refine (power_neg _ _ _ (by omega)).mono ?_
    rintro e w1 ⟨rfl, rfl⟩
    go_wp2_with fail
    refine (awake.awake_any _).mono ?_
    rintro e w1 ⟨rfl, hb⟩
    go_wp2_with fail
    go_ret
    exact ⟨rfl, hb⟩

set_option maxHeartbeats 1000000 in
theorem out2 (x n m : Int) (w : World) (h1 : 0 ≤ x) (h2 : n < 0) :
    Calls Try.prog 6 #[.int .i64 x, .int .i64 n, .int .i64 m] w fun e w' => e = .returned (.bool true) ∧ Below w.heap.size w w' := by
  go_enter Try.func6, Try.ntmps6
  go_wp2_with fail
  all_goals
    refine (power_neg _ _ _ (by omega)).mono ?_
    rintro e w1 ⟨rfl, rfl⟩
    go_wp2_with fail
    refine (awake.awake_any _).mono ?_
    rintro e w1 ⟨rfl, hb⟩
    go_wp2_with fail
    go_ret
    exact ⟨rfl, hb⟩

set_option maxHeartbeats 1000000 in
theorem out3 (x n m : Int) (w : World) (h1 : 0 ≤ x) (h2 : 0 ≤ n) (h3 : m < 0) :
    Calls Try.prog 6 #[.int .i64 x, .int .i64 n, .int .i64 m] w fun e w' => e = .returned (.bool true) ∧ Below w.heap.size w w' := by
  go_enter Try.func6, Try.ntmps6
  go_wp2_with fail
  all_goals
    refine (power_neg _ _ _ (by omega)).mono ?_
    rintro e w1 ⟨rfl, rfl⟩
    go_wp2_with fail
    refine (awake.awake_any _).mono ?_
    rintro e w1 ⟨rfl, hb⟩
    go_wp2_with fail
    go_ret
    exact ⟨rfl, hb⟩

set_option maxHeartbeats 1000000 in
theorem out4 (x n m : Int) (w : World) (h1 : 0 ≤ x) (h2 : 0 ≤ n) (h3 : 0 ≤ m) (h4 : 1099511627776 < n) :
    Calls Try.prog 6 #[.int .i64 x, .int .i64 n, .int .i64 m] w fun e w' => e = .returned (.bool true) ∧ Below w.heap.size w w' := by
  go_enter Try.func6, Try.ntmps6
  go_wp2_with fail
  all_goals
    refine (power_neg _ _ _ (by omega)).mono ?_
    rintro e w1 ⟨rfl, rfl⟩
    go_wp2_with fail
    refine (awake.awake_any _).mono ?_
    rintro e w1 ⟨rfl, hb⟩
    go_wp2_with fail
    go_ret
    exact ⟨rfl, hb⟩

set_option maxHeartbeats 1000000 in
theorem out5 (x n m : Int) (w : World) (h1 : 0 ≤ x) (h2 : 0 ≤ n) (h3 : 0 ≤ m) (h4 : n ≤ 1099511627776) (h5 : 1099511627776 < m) :
    Calls Try.prog 6 #[.int .i64 x, .int .i64 n, .int .i64 m] w fun e w' => e = .returned (.bool true) ∧ Below w.heap.size w w' := by
  go_enter Try.func6, Try.ntmps6
  go_wp2_with fail
  all_goals
    refine (power_neg _ _ _ (by omega)).mono ?_
    rintro e w1 ⟨rfl, rfl⟩
    go_wp2_with fail
    refine (awake.awake_any _).mono ?_
    rintro e w1 ⟨rfl, hb⟩
    go_wp2_with fail
    go_ret
    exact ⟨rfl, hb⟩

theorem mul_eq (a b c : Nat) (h : a * b % 8380417 = c) : ((a : Int) * (b : Int) % 8380417 == (c : Int)) = true := by
  rw [beq_iff_eq, ← h, Int.natCast_emod, Int.natCast_mul]; rfl
set_option maxRecDepth 100000 in
set_option maxHeartbeats 1000000 in
theorem in_range (x n m : Nat) (w : World) (h1 : x ≤ 9223372036854775807) (h2 : n ≤ 1099511627776) (h3 : m ≤ 1099511627776) (z : x % 8380417 = 0) :
    Calls Try.prog 6 #[.int .i64 (x : Int), .int .i64 (n : Int), .int .i64 (m : Int)] w fun e w' => e = .returned (.bool true) ∧ Below w.heap.size w w' := by
  obtain ⟨a, Ha⟩ := ex_eq ((pw x n : Nat) : Int)
  obtain ⟨b, Hb⟩ := ex_eq ((pw x m : Nat) : Int)
  obtain ⟨c, Hc⟩ := ex_eq ((pw x (n + m) : Nat) : Int)
  have hm := mul_bd (pw x n) (pw x m) (pw_lt _ _) (pw_lt _ _)
  rw [Ha.out, Hb.out] at hm
  have he := mul_eq (pw x n) (pw x m) (pw x (n + m)) (pw_add x n m)
  rw [Ha.out, Hb.out, Hc.out] at he
  have ha0 : 0 ≤ a := by rw [← Ha.out]; omega
  have ha1 : a ≤ 8380416 := by have := pw_lt x n; rw [← Ha.out]; omega
  have hz : ((x : Int) % 8380417 == 0) = true := by rw [beq_iff_eq]; omega
  clear z
  go_enter Try.func6, Try.ntmps6
  go_wp2_with fail
  refine (power_nn x n _ (by omega) (by omega)).mono ?_
  rintro e w1 ⟨rfl, rfl⟩
  rw [Ha.out]
  go_wp2_with fail
  refine (power_nn x m _ (by omega) (by omega)).mono ?_
  rintro e w1 ⟨rfl, rfl⟩
  rw [Hb.out]
  go_wp2_with fail
  rw [show (n : Int) + (m : Int) = ((n + m : Nat) : Int) by omega]
  refine (power_nn x (n + m) _ (by omega) (by omega)).mono ?_
  rintro e w1 ⟨rfl, rfl⟩
  rw [Hc.out]
  go_wp2_with fail
  refine (awake.awake_any _).mono ?_
  rintro e w1 ⟨rfl, hbel⟩
  go_wp2_with fail
  go_ret
  exact ⟨rfl, hbel⟩
set_option maxRecDepth 100000 in
set_option maxHeartbeats 1000000 in
theorem in_range2 (x n m : Nat) (w : World) (h1 : x ≤ 9223372036854775807) (h2 : n ≤ 1099511627776) (h3 : m ≤ 1099511627776) (z : x % 8380417 ≠ 0) :
    Calls Try.prog 6 #[.int .i64 (x : Int), .int .i64 (n : Int), .int .i64 (m : Int)] w fun e w' => e = .returned (.bool true) ∧ Below w.heap.size w w' := by
  obtain ⟨a, Ha⟩ := ex_eq ((pw x n : Nat) : Int)
  obtain ⟨b, Hb⟩ := ex_eq ((pw x m : Nat) : Int)
  obtain ⟨c, Hc⟩ := ex_eq ((pw x (n + m) : Nat) : Int)
  have hm := mul_bd (pw x n) (pw x m) (pw_lt _ _) (pw_lt _ _)
  rw [Ha.out, Hb.out] at hm
  have he := mul_eq (pw x n) (pw x m) (pw x (n + m)) (pw_add x n m)
  rw [Ha.out, Hb.out, Hc.out] at he
  have ha0 : 0 ≤ a := by rw [← Ha.out]; omega
  have ha1 : a ≤ 8380416 := by have := pw_lt x n; rw [← Ha.out]; omega
  have hz : ((x : Int) % 8380417 == 0) = false := by rw [beq_eq_false_iff_ne]; omega
  have Hf : Away (x % 8380417 ≠ 0 → pw x 8380416 = 1) := ⟨pw_fermat x⟩
  have Hg := Away.mk (Hf.out z)
  clear z Hf
  go_enter Try.func6, Try.ntmps6
  go_wp2_with fail
  refine (power_nn x n _ (by omega) (by omega)).mono ?_
  rintro e w1 ⟨rfl, rfl⟩
  rw [Ha.out]
  go_wp2_with fail
  refine (power_nn x m _ (by omega) (by omega)).mono ?_
  rintro e w1 ⟨rfl, rfl⟩
  rw [Hb.out]
  go_wp2_with fail
  rw [show (n : Int) + (m : Int) = ((n + m : Nat) : Int) by omega]
  refine (power_nn x (n + m) _ (by omega) (by omega)).mono ?_
  rintro e w1 ⟨rfl, rfl⟩
  rw [Hc.out]
  go_wp2_with fail
  refine (power_nn x 8380416 _ (by omega) (by decide)).mono ?_
  rintro e w1 ⟨rfl, rfl⟩
  rw [Hg.out]
  go_wp2_with fail
  refine (awake.awake_any _).mono ?_
  rintro e w1 ⟨rfl, hbel⟩
  go_wp2_with fail
  go_ret
  exact ⟨rfl, hbel⟩

theorem walk (x n m : Int) (w : World) (w0 : (Lit.int .i64 x).wf = true) (w1 : (Lit.int .i64 n).wf = true) (w2 : (Lit.int .i64 m).wf = true) :
    Calls Try.prog 6 #[.int .i64 x, .int .i64 n, .int .i64 m] w fun e w' => e = .returned (.bool true) ∧ Below w.heap.size w w' := by
  have hx := bounds_i64 w0
  by_cases h1 : x < 0
  · exact out1 x n m w h1
  by_cases h2 : n < 0
  · exact out2 x n m w (by omega) h2
  by_cases h3 : m < 0
  · exact out3 x n m w (by omega) (by omega) h3
  by_cases h4 : 1099511627776 < n
  · exact out4 x n m w (by omega) (by omega) (by omega) h4
  by_cases h5 : 1099511627776 < m
  · exact out5 x n m w (by omega) (by omega) (by omega) (by omega) h5
  obtain ⟨a, rfl⟩ := Int.eq_ofNat_of_zero_le (show 0 ≤ x by omega)
  obtain ⟨b, rfl⟩ := Int.eq_ofNat_of_zero_le (show 0 ≤ n by omega)
  obtain ⟨c, rfl⟩ := Int.eq_ofNat_of_zero_le (show 0 ≤ m by omega)
  by_cases z : a % 8380417 = 0
  · exact in_range a b c w (by omega) (by omega) (by omega) z
  · exact in_range2 a b c w (by omega) (by omega) (by omega) z

/-! ### The row -/
set_option maxRecDepth 100000 in
theorem lifted (os : Os) (started : os.Started) (H : Type) (enc : TypeId × Value → H) :
    ReturnsInHanded {} Try.checked os 6 .any (Rows.tablesPowersSpec.pre6 enc Try.prog Try.f6 Rows.tablesPowersRow.domain false) (Rows.tablesPowersSpec.post enc Try.prog Try.f6 false true false false) := by
  refine returnsInHanded_of_change (C := Try.checked) own started (by kernel_rfl) Try.func6
    (ChangeSpec.witness6 (enc := enc) (C := Try.checked) false ⟨#[], #[.int .i64 0, .int .i64 0, .int .i64 0], []⟩ 8 (by kernel_rfl) (by kernel_rfl) (by kernel_rfl) (by kernel_rfl)) ?_
  intro W base args ds gs before hval0 hW hcnd _
  have hval : ∀ (j : Nat) t v, Try.f6.params[j]? = some t → args[j]? = some v → Value.okWide Try.prog W .any base t v := hval0
  have hW' := hW
  have hlt := hW.lt
  obtain ⟨p, q, hA0, hV, rfl, hfz, hnd⟩ := hW
  have hA : DataW.TrodAll enc Try.prog W 0 (fun _ => true) true Try.f6.params.toList args.toList ds p := hA0
  rw [Try.params6] at hA hval
  obtain ⟨v0, vs0, d0, ds0, p0, q0, hargs, rfl, rfl, h0, r0⟩ := trodAll_cons hA
  obtain ⟨v1, vs1, d1, ds1, p1, q1, rfl, rfl, rfl, h1, r1⟩ := trodAll_cons r0
  obtain ⟨v2, vs2, d2, ds2, p2, q2, rfl, rfl, rfl, h2, r2⟩ := trodAll_cons r1
  obtain ⟨rfl, rfl, rfl⟩ := trodAll_nil r2
  obtain rfl : args = #[v0, v1, v2] := by cases args; simp_all
  obtain ⟨rfl, rfl⟩ := trodVars_none hV
  obtain ⟨a0, rfl, rfl, rfl, w0⟩ := open_int Try.underlying3 (hval 0 3 v0 rfl rfl) h0
  obtain ⟨a1, rfl, rfl, rfl, w1⟩ := open_int Try.underlying3 (hval 1 3 v1 rfl rfl) h1
  obtain ⟨a2, rfl, rfl, rfl, w2⟩ := open_int Try.underlying3 (hval 2 3 v2 rfl rfl) h2
  clear hA0 hval0
  refine (walk a0 a1 a2 W w0 w1 w2).mono fun e W' ⟨he, bel⟩ => ?_
  subst he
  exact ⟨_, rfl, _, _, _, [], _, [], hW', trodAll_mk1 (shut_bool Try.underlying4 _), (trodAll_cons_mk (Below.trod laidOut (by kernel_rfl) (of_decide_eq_true (by kernel_rfl)) h0 bel (fun x hx => by first | exact absurd hx (by simp) | exact hlt x (by simpa using hx) | exact hlt x (by simp; exact Or.inl hx) | exact hlt x (by simp; exact Or.inr hx) | exact hlt x (by simp; exact Or.inr (Or.inl hx)) | exact hlt x (by simp; exact Or.inr (Or.inr hx)))) (trodAll_cons_mk (Below.trod laidOut (by kernel_rfl) (of_decide_eq_true (by kernel_rfl)) h1 bel (fun x hx => by first | exact absurd hx (by simp) | exact hlt x (by simpa using hx) | exact hlt x (by simp; exact Or.inl hx) | exact hlt x (by simp; exact Or.inr hx) | exact hlt x (by simp; exact Or.inr (Or.inl hx)) | exact hlt x (by simp; exact Or.inr (Or.inr hx)))) (trodAll_cons_mk (Below.trod laidOut (by kernel_rfl) (of_decide_eq_true (by kernel_rfl)) h2 bel (fun x hx => by first | exact absurd hx (by simp) | exact hlt x (by simpa using hx) | exact hlt x (by simp; exact Or.inl hx) | exact hlt x (by simp; exact Or.inr hx) | exact hlt x (by simp; exact Or.inr (Or.inl hx)) | exact hlt x (by simp; exact Or.inr (Or.inr hx)))) trodAll_mk0))), rfl, bel.frame _, fun h => by cases h⟩

theorem over : Rows.tablesPowersRow.holds Try.pinned (OpenSpec.ofChange Rows.tablesPowersSpec) :=
  OpenClaim.holds_of_wide 6 Try.f6 rfl rfl rfl rfl rfl rfl rfl ⟨rfl, rfl, rfl, rfl, rfl⟩ rfl rfl rfl rfl rfl (by kernel_rfl) Try.func6 (by kernel_rfl)
    (of_decide_eq_true (by kernel_rfl)) (by unfold Func.isWrapper; first | (rw [if_pos (by decide +kernel)]; kernel_rfl) | (rw [if_neg (by decide +kernel)]; exact ⟨rfl, rfl⟩))
    (fun os started H enc _ => lifted os started H enc)

theorem proved : Rows.TablesPowersSaid :=
  over
end Go.Proofs.Ytdmepbjcnnggaaa.lpowers
