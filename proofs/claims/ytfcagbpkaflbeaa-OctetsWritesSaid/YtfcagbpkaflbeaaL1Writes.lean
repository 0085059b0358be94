/-
  The statement OctetsWrites (P1.1, P1.3, P1.5, P1.6): octets.Int, Text, Fixed and Worth give, for every input, what the document's own answers give. Conditions: none; for every input that the form speaks of.
-/
import Derived.Test.YtfcagbpkaflbeaaRows
import Derived.Test.YtfcagbpkaflbeaaAwake
import Derived.Test.YtfcagbpkaflbeaaR01T
import Derived.Test.YtfcagbpkaflbeaaOpen
import Derived.RegionTactic
import Derived.ChangeAlike
import Derived.Deep.QuietTactic
import Derived.BigQuiet
namespace Go.Proofs.Ytfcagbpkaflbeaa.lwrites
open Go.ChangeShapes Go.WideShapes Go.ChangeAt Go.RowKit
open Go.ChangeMaps (open_string shut_string)
open Go.Proofs.Ytfcagbpkaflbeaa.oct Go.Proofs.Ytfcagbpkaflbeaa.bits8
set_option linter.unusedVariables false
theorem own : ownKnob Try.prog.godebug = none := by kernel_rfl
theorem laidOut : laidOutB Try.prog = true := by kernel_rfl

theorem boxed {w w1 : World} {o : Obj} {nq : Nat} (hb : Below ((w.alloc o).drewN nq).heap.size ((w.alloc o).drewN nq) w1) : Below w.heap.size w w1 :=
  (below_drewN ((Below.refl _ _).alloc (Nat.le_refl _) o) nq).trans (hb.mono (by show w.heap.size ≤ (w.alloc o).heap.size; simp))

section
variable (n width most : Int) (u : Nat) (t : ByteArray) (w : World)
set_option maxHeartbeats 1000000 in
theorem walk_wide (h : 300 < width) :
    Calls Try.prog 3 #[.agg #[.int .i64 n, .int .i64 width, .int .i64 most], .int .u64 u, .string t] w fun e w' => e = .returned (.bool true) ∧ Below w.heap.size w w' := by
  go_enter Try.func3, Try.ntmps3
  go_wp2_with fail
  go_quiet (fail)
  go_wp2_with fail
  refine (awake.awake_any _).mono ?_
  rintro e w1 ⟨rfl, hb⟩
  go_wp2_with fail
  go_ret
  exact ⟨rfl, boxed hb⟩
set_option maxHeartbeats 1000000 in
theorem walk_long (h : width ≤ 300) (h2 : 4000 < t.size) :
    Calls Try.prog 3 #[.agg #[.int .i64 n, .int .i64 width, .int .i64 most], .int .u64 u, .string t] w fun e w' => e = .returned (.bool true) ∧ Below w.heap.size w w' := by
  go_enter Try.func3, Try.ntmps3
  go_wp2_with fail
  go_quiet (fail)
  go_wp2_with fail
  refine (awake.awake_any _).mono ?_
  rintro e w1 ⟨rfl, hb⟩
  go_wp2_with fail
  go_ret
  exact ⟨rfl, boxed hb⟩
set_option maxHeartbeats 1000000 in
theorem walk_mid (hu : u < 18446744073709551616) (h : width ≤ 300) (h2 : t.size ≤ 4000) :
    Calls Try.prog 3 #[.agg #[.int .i64 n, .int .i64 width, .int .i64 most], .int .u64 u, .string t] w fun e w' => e = .returned (.bool true) ∧ Below w.heap.size w w' := by
  obtain ⟨a, ea, hi⟩ : ∃ a e, intL n = (a, e) := ⟨_, _, rfl⟩
  obtain ⟨b, eb, ht⟩ : ∃ a e, textL t.data.toList most = (a, e) := ⟨_, _, rfl⟩
  obtain ⟨f, hf⟩ : ∃ f, fixS u width = f := ⟨_, rfl⟩
  obtain ⟨v, hv⟩ : ∃ v, woU t.data.toList = v := ⟨_, rfl⟩
  have Hi := Lib.hid hi
  have Ht := Lib.hid ht
  have Hf := Lib.hid hf
  have Hv := Lib.hid hv
  have Hu := Lib.hid hu
  clear hi ht hf hv hu
  go_enter Try.func3, Try.ntmps3
  go_wp2_with fail
  go_quiet (fail)
  go_wp2_with fail
  refine (ints.int_any _ _).mono ?_
  rintro e w1 ⟨rfl, hb1⟩
  rw [Hi.out]
  go_wp2_with fail
  refine (r01i.int_any _ _).mono ?_
  rintro e w2 ⟨rfl, hb2⟩
  rw [Hi.out]
  go_wp2_with fail
  refine (texts.text_any _ _ _ (by omega)).mono ?_
  rintro e w3 ⟨rfl, hb3⟩
  rw [Ht.out]
  go_wp2_with fail
  refine (r01t.text_any _ _ _ (by omega)).mono ?_
  rintro e w4 ⟨rfl, hb4⟩
  rw [Ht.out]
  go_wp2_with fail
  refine (fixed.fixed_any _ _ _ Hu.out).mono ?_
  rintro e w5 ⟨rfl, hb5⟩
  rw [Hf.out]
  go_wp2_with fail
  refine (r01.fixed_any _ _ _ Hu.out).mono ?_
  rintro e w6 ⟨rfl, hb6⟩
  rw [Hf.out]
  go_wp2_with fail
  refine (worth.worth_any _ _ (by unfold maxLen; omega)).mono ?_
  rintro e w7 ⟨rfl, rfl⟩
  rw [Hv.out]
  go_wp2_with fail
  refine (r01.worth_any _ _ (by unfold maxLen; omega)).mono ?_
  rintro e w8 ⟨rfl, rfl⟩
  rw [Hv.out]
  go_wp2_with fail
  refine (awake.awake_any _).mono ?_
  rintro e w9 ⟨rfl, hb9⟩
  go_wp2_with fail
  go_ret
  have s1 := hb1.size
  have s2 := hb2.size
  have s3 := hb3.size
  have s4 := hb4.size
  have s5 := hb5.size
  have s6 := hb6.size
  exact ⟨rfl, boxed (((((hb1.trans (hb2.mono s1)).trans (hb3.mono (by omega))).trans (hb4.mono (by omega))).trans (hb5.mono (by omega))).trans (hb6.mono (by omega)) |>.trans (hb9.mono (by omega)))⟩
end
theorem walk (n width most u : Int) (t : ByteArray) (w : World) (w1 : (Lit.int .i64 n).wf = true) (w2 : (Lit.int .i64 width).wf = true) (w3 : (Lit.int .i64 most).wf = true) (w4 : (Lit.int .u64 u).wf = true) (w5 : t.size ≤ maxLen) :
    Calls Try.prog 3 #[.agg #[.int .i64 n, .int .i64 width, .int .i64 most], .int .u64 u, .string t] w fun e w' => e = .returned (.bool true) ∧ Below w.heap.size w w' := by
  have hu := bounds_u64 w4
  obtain ⟨m, rfl⟩ := Int.eq_ofNat_of_zero_le hu.1
  by_cases h1 : 300 < width
  · exact walk_wide n width most m t w h1
  by_cases h2 : 4000 < t.size
  · exact walk_long n width most m t w (by omega) h2
  · exact walk_mid n width most m t w (by omega) (by omega) (by omega)

/-! ### The row -/
set_option maxRecDepth 100000 in
theorem lifted (os : Os) (started : os.Started) (H : Type) (enc : TypeId × Value → H) :
    ReturnsInHanded {} Try.checked os 3 .any (Rows.octetsWritesSpec.pre6 enc Try.prog Try.f3 Rows.octetsWritesRow.domain false) (Rows.octetsWritesSpec.post enc Try.prog Try.f3 false true false false) := by
  refine returnsInHanded_of_change (C := Try.checked) own started (by kernel_rfl) Try.func3
    (ChangeSpec.witness6 (enc := enc) (C := Try.checked) false ⟨#[], #[.agg #[.int .i64 0, .int .i64 0, .int .i64 0], .int .u64 0, .string ByteArray.empty], []⟩ 8 (by kernel_rfl) (by kernel_rfl) (by kernel_rfl) (by kernel_rfl)) ?_
  intro W base args ds gs before hval0 hW hcnd _
  have hval : ∀ (j : Nat) t v, Try.f3.params[j]? = some t → args[j]? = some v → Value.okWide Try.prog W .any base t v := hval0
  have hW' := hW
  have hlt := hW.lt
  obtain ⟨p, q, hA0, hV, rfl, hfz, hnd⟩ := hW
  have hA : DataW.TrodAll enc Try.prog W 0 (fun _ => true) true Try.f3.params.toList args.toList ds p := hA0
  rw [Try.params3] at hA hval
  obtain ⟨v0, vs0, d0, ds0, p0, q0, hargs, rfl, rfl, h0, r0⟩ := trodAll_cons hA
  obtain ⟨v1, vs1, d1, ds1, p1, q1, rfl, rfl, rfl, h1, r1⟩ := trodAll_cons r0
  obtain ⟨v2, vs2, d2, ds2, p2, q2, rfl, rfl, rfl, h2, r2⟩ := trodAll_cons r1
  obtain ⟨rfl, rfl, rfl⟩ := trodAll_nil r2
  obtain rfl : args = #[v0, v1, v2] := by cases args; simp_all
  obtain ⟨rfl, rfl⟩ := trodVars_none hV
  obtain ⟨a0, b0, c0, rfl, wa0, wb0, wc0⟩ := opens.open_ints3 Try.underlying22 Try.underlying3 (by kernel_rfl) (by kernel_rfl) (hval 0 22 v0 rfl rfl) h0
  obtain ⟨a1, rfl, rfl, rfl, w1⟩ := open_int Try.underlying23 (hval 1 23 v1 rfl rfl) h1
  obtain ⟨a2, rfl, rfl, rfl, w2⟩ := open_string Try.underlying9 (hval 2 9 v2 rfl rfl) h2
  clear hA0 hval0
  refine (walk a0 b0 c0 a1 a2 W wa0 wb0 wc0 w1 w2).mono fun e W' ⟨he, bel⟩ => ?_
  subst he
  exact ⟨_, rfl, _, _, _, [], _, [], hW', trodAll_mk1 (shut_bool Try.underlying4 _), (trodAll_cons_mk (Below.trod laidOut (by kernel_rfl) (of_decide_eq_true (by kernel_rfl)) h0 bel (fun x hx => by first | exact absurd hx (by simp) | exact hlt x (by simpa using hx) | exact hlt x (by simp; exact Or.inl hx) | exact hlt x (by simp; exact Or.inr hx) | exact hlt x (by simp; exact Or.inr (Or.inl hx)) | exact hlt x (by simp; exact Or.inr (Or.inr hx)))) (trodAll_cons_mk (Below.trod laidOut (by kernel_rfl) (of_decide_eq_true (by kernel_rfl)) h1 bel (fun x hx => by first | exact absurd hx (by simp) | exact hlt x (by simpa using hx) | exact hlt x (by simp; exact Or.inl hx) | exact hlt x (by simp; exact Or.inr hx) | exact hlt x (by simp; exact Or.inr (Or.inl hx)) | exact hlt x (by simp; exact Or.inr (Or.inr hx)))) (trodAll_cons_mk (Below.trod laidOut (by kernel_rfl) (of_decide_eq_true (by kernel_rfl)) h2 bel (fun x hx => by first | exact absurd hx (by simp) | exact hlt x (by simpa using hx) | exact hlt x (by simp; exact Or.inl hx) | exact hlt x (by simp; exact Or.inr hx) | exact hlt x (by simp; exact Or.inr (Or.inl hx)) | exact hlt x (by simp; exact Or.inr (Or.inr hx)))) trodAll_mk0))), rfl, bel.frame _, fun h => by cases h⟩

theorem over : Rows.octetsWritesRow.holds Try.pinned (OpenSpec.ofChange Rows.octetsWritesSpec) :=
  OpenClaim.holds_of_wide 3 Try.f3 rfl rfl rfl rfl rfl rfl rfl ⟨rfl, rfl, rfl, rfl, rfl⟩ rfl rfl rfl rfl rfl (by kernel_rfl) Try.func3 (by kernel_rfl)
    (of_decide_eq_true (by kernel_rfl)) (by unfold Func.isWrapper; first | (rw [if_pos (by decide +kernel)]; kernel_rfl) | (rw [if_neg (by decide +kernel)]; exact ⟨rfl, rfl⟩))
    (fun os started H enc _ => lifted os started H enc)

theorem proved : Rows.OctetsWritesSaid :=
  over
end Go.Proofs.Ytfcagbpkaflbeaa.lwrites
