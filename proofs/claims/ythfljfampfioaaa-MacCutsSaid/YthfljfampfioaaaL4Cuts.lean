/-
  The statement MacCuts (P4.4): cut twice is cut once at the smaller place; what is cut off and the rest are the string. Conditions: none; for every input that the form speaks of.
-/
import Derived.Test.YthfljfampfioaaaRows
import Derived.Test.YthfljfampfioaaaAwake4
import Derived.ShutString
import Derived.ProofKit
import Derived.OpenShut
import Derived.Carry
namespace Go.Proofs.Ythfljfampfioaaa.lcuts
open Go.ChangeShapes Go.WideShapes Go.ChangeAt Go.RowKit
open Go.ChangeMaps (open_string shut_string)
open Go.Proofs.Ythfljfampfioaaa.arr Go.Proofs.Ythfljfampfioaaa.mem
set_option linter.unusedVariables false
theorem own : ownKnob Try.prog.godebug = none := by kernel_rfl
theorem laidOut : laidOutB Try.prog = true := by kernel_rfl

set_option maxRecDepth 100000 in
set_option maxHeartbeats 2000000 in
theorem far (s : ByteArray) (n m : Int) (w : World) (h : 4000 < s.size) :
    Calls Try.prog 6 #[.string s, .int .i64 n, .int .i64 m] w fun e w' => e = .returned (.bool true) ∧ Below w.heap.size w w' := by
  go_enter Try.func6, Try.ntmps6
  go_wp2_with fail
  refine (awake4.live_any _).mono ?_
  rintro e w3 ⟨rfl, hb⟩
  go_wp2_with fail
  go_ret
  exact ⟨rfl, hb⟩
theorem min_toNat (n m : Int) : (min n m).toNat = min n.toNat m.toNat := by omega
set_option maxRecDepth 100000 in
set_option maxHeartbeats 2000000 in
theorem near_neg (s : ByteArray) (n m : Int) (w : World) (h : s.size ≤ 4000) (hn : n < 0) :
    Calls Try.prog 6 #[.string s, .int .i64 n, .int .i64 m] w fun e w' => e = .returned (.bool true) ∧ Below w.heap.size w w' := by
  have hsl : s.data.toList.length = s.size := rfl
  obtain ⟨A, hA⟩ : ∃ A : ByteArray, (⟨(s.data.toList.take n.toNat).toArray⟩ : ByteArray) = A := ⟨_, rfl⟩
  have hAd : A.data.toList = s.data.toList.take n.toNat := by rw [← hA]
  have hAs : A.size = min n.toNat s.size := by
    have e : A.data.toList.length = A.size := rfl
    rw [← e, hAd, List.length_take, hsl]
  have hAx : s.extract 0 A.size = A := by rw [cut.cut_bytes s A.size n.toNat hAs, hA]
  obtain ⟨X, hX⟩ : ∃ X : ByteArray, (⟨(s.data.toList.take (min n m).toNat).toArray⟩ : ByteArray) = X := ⟨_, rfl⟩
  have H1 : Away (∀ w1 : World, Calls Try.prog 15 #[.string s, .int .i64 n] w1 fun e w' => e = .returned (.string A) ∧ Below w1.heap.size w1 w') := ⟨fun w1 => by rw [← hA]; exact cut.cut_any s n w1 (by omega)⟩
  have H2 : Away (∀ w1 : World, Calls Try.prog 15 #[.string A, .int .i64 m] w1 fun e w' => e = .returned (.string X) ∧ Below w1.heap.size w1 w') := ⟨fun w1 => by
    have hh := cut.cut_any A m w1 (by omega)
    rw [hAd, List.take_take, Nat.min_comm, ← min_toNat, hX] at hh
    exact hh⟩
  have H3 : Away (∀ w1 : World, Calls Try.prog 15 #[.string s, .int .i64 (min n m)] w1 fun e w' => e = .returned (.string X) ∧ Below w1.heap.size w1 w') := ⟨fun w1 => by rw [← hX]; exact cut.cut_any s (min n m) w1 (by omega)⟩
  obtain ⟨q, hq⟩ : ∃ q, min n.toNat s.size = q := ⟨_, rfl⟩
  rw [hq] at hAs
  rw [hAs] at hAx
  have hAz : q ≤ s.size := by omega
  clear hA hX hAd
  clear hq
  go_enter Try.func6, Try.ntmps6
  go_wp2_with fail
  refine (H1.out _).mono ?_
  rintro e w1 ⟨rfl, hb1⟩
  go_wp2_with fail
  refine (H2.out _).mono ?_
  rintro e w2 ⟨rfl, hb2⟩
  go_wp2_with fail
  refine (H3.out _).mono ?_
  rintro e w3 ⟨rfl, hb3⟩
  have Hb3 : Away (Below w.heap.size w w3) := ⟨(hb1.trans (hb2.mono hb1.size)).trans (hb3.mono (Nat.le_trans hb1.size hb2.size))⟩
  clear hb1 hb2 hb3
  go_wp2_with fail
  refine (awake4.live_any _).mono ?_
  rintro e w4 ⟨rfl, hb4⟩
  have Hb4 : Away (Below w.heap.size w w4) := ⟨Hb3.out.trans (hb4.mono Hb3.out.size)⟩
  clear hb4
  go_wp2_with fail
  go_ret
  exact ⟨rfl, Hb4.out⟩
set_option maxRecDepth 100000 in
set_option maxHeartbeats 2000000 in
theorem near_past (s : ByteArray) (n m : Int) (w : World) (h : s.size ≤ 4000) (hn : (s.size : Int) < n) :
    Calls Try.prog 6 #[.string s, .int .i64 n, .int .i64 m] w fun e w' => e = .returned (.bool true) ∧ Below w.heap.size w w' := by
  have hsl : s.data.toList.length = s.size := rfl
  obtain ⟨A, hA⟩ : ∃ A : ByteArray, (⟨(s.data.toList.take n.toNat).toArray⟩ : ByteArray) = A := ⟨_, rfl⟩
  have hAd : A.data.toList = s.data.toList.take n.toNat := by rw [← hA]
  have hAs : A.size = min n.toNat s.size := by
    have e : A.data.toList.length = A.size := rfl
    rw [← e, hAd, List.length_take, hsl]
  have hAx : s.extract 0 A.size = A := by rw [cut.cut_bytes s A.size n.toNat hAs, hA]
  obtain ⟨X, hX⟩ : ∃ X : ByteArray, (⟨(s.data.toList.take (min n m).toNat).toArray⟩ : ByteArray) = X := ⟨_, rfl⟩
  have H1 : Away (∀ w1 : World, Calls Try.prog 15 #[.string s, .int .i64 n] w1 fun e w' => e = .returned (.string A) ∧ Below w1.heap.size w1 w') := ⟨fun w1 => by rw [← hA]; exact cut.cut_any s n w1 (by omega)⟩
  have H2 : Away (∀ w1 : World, Calls Try.prog 15 #[.string A, .int .i64 m] w1 fun e w' => e = .returned (.string X) ∧ Below w1.heap.size w1 w') := ⟨fun w1 => by
    have hh := cut.cut_any A m w1 (by omega)
    rw [hAd, List.take_take, Nat.min_comm, ← min_toNat, hX] at hh
    exact hh⟩
  have H3 : Away (∀ w1 : World, Calls Try.prog 15 #[.string s, .int .i64 (min n m)] w1 fun e w' => e = .returned (.string X) ∧ Below w1.heap.size w1 w') := ⟨fun w1 => by rw [← hX]; exact cut.cut_any s (min n m) w1 (by omega)⟩
  obtain ⟨q, hq⟩ : ∃ q, min n.toNat s.size = q := ⟨_, rfl⟩
  rw [hq] at hAs
  rw [hAs] at hAx
  have hAz : q ≤ s.size := by omega
  clear hA hX hAd
  have h0 : ¬ n < 0 := by omega
  clear hq
  go_enter Try.func6, Try.ntmps6
  go_wp2_with fail
  refine (H1.out _).mono ?_
  rintro e w1 ⟨rfl, hb1⟩
  go_wp2_with fail
  refine (H2.out _).mono ?_
  rintro e w2 ⟨rfl, hb2⟩
  go_wp2_with fail
  refine (H3.out _).mono ?_
  rintro e w3 ⟨rfl, hb3⟩
  have Hb3 : Away (Below w.heap.size w w3) := ⟨(hb1.trans (hb2.mono hb1.size)).trans (hb3.mono (Nat.le_trans hb1.size hb2.size))⟩
  clear hb1 hb2 hb3
  go_wp2_with fail
  refine (awake4.live_any _).mono ?_
  rintro e w4 ⟨rfl, hb4⟩
  have Hb4 : Away (Below w.heap.size w w4) := ⟨Hb3.out.trans (hb4.mono Hb3.out.size)⟩
  clear hb4
  go_wp2_with fail
  go_ret
  exact ⟨rfl, Hb4.out⟩
set_option maxRecDepth 100000 in
set_option maxHeartbeats 2000000 in
theorem near_mid (s : ByteArray) (n m : Int) (w : World) (h : s.size ≤ 4000) (hn : 0 ≤ n ∧ n ≤ (s.size : Int)) :
    Calls Try.prog 6 #[.string s, .int .i64 n, .int .i64 m] w fun e w' => e = .returned (.bool true) ∧ Below w.heap.size w w' := by
  have hsl : s.data.toList.length = s.size := rfl
  obtain ⟨A, hA⟩ : ∃ A : ByteArray, (⟨(s.data.toList.take n.toNat).toArray⟩ : ByteArray) = A := ⟨_, rfl⟩
  have hAd : A.data.toList = s.data.toList.take n.toNat := by rw [← hA]
  have hAs : A.size = min n.toNat s.size := by
    have e : A.data.toList.length = A.size := rfl
    rw [← e, hAd, List.length_take, hsl]
  have hAx : s.extract 0 A.size = A := by rw [cut.cut_bytes s A.size n.toNat hAs, hA]
  obtain ⟨X, hX⟩ : ∃ X : ByteArray, (⟨(s.data.toList.take (min n m).toNat).toArray⟩ : ByteArray) = X := ⟨_, rfl⟩
  have H1 : Away (∀ w1 : World, Calls Try.prog 15 #[.string s, .int .i64 n] w1 fun e w' => e = .returned (.string A) ∧ Below w1.heap.size w1 w') := ⟨fun w1 => by rw [← hA]; exact cut.cut_any s n w1 (by omega)⟩
  have H2 : Away (∀ w1 : World, Calls Try.prog 15 #[.string A, .int .i64 m] w1 fun e w' => e = .returned (.string X) ∧ Below w1.heap.size w1 w') := ⟨fun w1 => by
    have hh := cut.cut_any A m w1 (by omega)
    rw [hAd, List.take_take, Nat.min_comm, ← min_toNat, hX] at hh
    exact hh⟩
  have H3 : Away (∀ w1 : World, Calls Try.prog 15 #[.string s, .int .i64 (min n m)] w1 fun e w' => e = .returned (.string X) ∧ Below w1.heap.size w1 w') := ⟨fun w1 => by rw [← hX]; exact cut.cut_any s (min n m) w1 (by omega)⟩
  obtain ⟨q, hq⟩ : ∃ q, min n.toNat s.size = q := ⟨_, rfl⟩
  rw [hq] at hAs
  rw [hAs] at hAx
  have hAz : q ≤ s.size := by omega
  clear hA hX hAd
  have h0 : ¬ n < 0 := by omega
  have h1 : ¬ (s.size : Int) < n := by omega
  obtain rfl : n = (q : Int) := by omega
  clear hq
  go_enter Try.func6, Try.ntmps6
  go_wp2_with fail
  refine (H1.out _).mono ?_
  rintro e w1 ⟨rfl, hb1⟩
  go_wp2_with fail
  refine (H2.out _).mono ?_
  rintro e w2 ⟨rfl, hb2⟩
  go_wp2_with fail
  refine (H3.out _).mono ?_
  rintro e w3 ⟨rfl, hb3⟩
  have Hb3 : Away (Below w.heap.size w w3) := ⟨(hb1.trans (hb2.mono hb1.size)).trans (hb3.mono (Nat.le_trans hb1.size hb2.size))⟩
  clear hb1 hb2 hb3
  go_wp2_with fail
  refine (awake4.live_any _).mono ?_
  rintro e w4 ⟨rfl, hb4⟩
  have Hb4 : Away (Below w.heap.size w w4) := ⟨Hb3.out.trans (hb4.mono Hb3.out.size)⟩
  clear hb4
  go_wp2_with fail
  go_ret
  exact ⟨rfl, Hb4.out⟩
theorem walk (s : ByteArray) (n m : Int) (w : World) (w0 : s.size ≤ maxLen) (w1 : (Lit.int .i64 n).wf = true) (w2 : (Lit.int .i64 m).wf = true) :
    Calls Try.prog 6 #[.string s, .int .i64 n, .int .i64 m] w fun e w' => e = .returned (.bool true) ∧ Below w.heap.size w w' := by
  by_cases h : 4000 < s.size
  · exact far s n m w h
  · by_cases h1 : n < 0
    · exact near_neg s n m w (by omega) h1
    · by_cases h2 : (s.size : Int) < n
      · exact near_past s n m w (by omega) h2
      · exact near_mid s n m w (by omega) ⟨by omega, by omega⟩

/-! ### The row -/
set_option maxRecDepth 100000 in
theorem lifted (os : Os) (started : os.Started) (H : Type) (enc : TypeId × Value → H) :
    ReturnsInHanded {} Try.checked os 6 .any (Rows.macCutsSpec.pre6 enc Try.prog Try.f6 Rows.macCutsRow.domain false) (Rows.macCutsSpec.post enc Try.prog Try.f6 false true false false) := by
  refine returnsInHanded_of_change (C := Try.checked) own started (by kernel_rfl) Try.func6
    (ChangeSpec.witness6 (enc := enc) (C := Try.checked) false ⟨#[], #[.string ByteArray.empty, .int .i64 0, .int .i64 0], []⟩ 8 (by kernel_rfl) (by kernel_rfl) (by kernel_rfl) (by kernel_rfl)) ?_
  intro W base args ds gs before hval0 hW hcnd _
  have hval : ∀ (j : Nat) t v, Try.f6.params[j]? = some t → args[j]? = some v → Value.okWide Try.prog W .any base t v := hval0
  have hW' := hW
  have hlt := hW.lt
  obtain ⟨p, q, hA0, hV, rfl, hfz, hnd⟩ := hW
  have hA : DataW.TrodAll enc Try.prog W 0 (fun _ => true) true Try.f6.params.toList args.toList ds p := hA0
  rw [Try.params6] at hA hval
  obtain ⟨v0, vs0, d0, ds0, p0, q0, hargs, rfl, rfl, h0, r0⟩ := trodAll_cons hA
  obtain ⟨v1, vs1, d1, ds1, p1, q1, rfl, rfl, rfl, h1, r1⟩ := trodAll_cons r0
  obtain ⟨v2, vs2, d2, ds2, p2, q2, rfl, rfl, rfl, h2, r2⟩ := trodAll_cons r1
  obtain ⟨rfl, rfl, rfl⟩ := trodAll_nil r2
  obtain rfl : args = #[v0, v1, v2] := by cases args; simp_all
  obtain ⟨rfl, rfl⟩ := trodVars_none hV
  obtain ⟨a0, rfl, rfl, rfl, w0⟩ := open_string Try.underlying9 (hval 0 9 v0 rfl rfl) h0
  obtain ⟨a1, rfl, rfl, rfl, w1⟩ := open_int Try.underlying3 (hval 1 3 v1 rfl rfl) h1
  obtain ⟨a2, rfl, rfl, rfl, w2⟩ := open_int Try.underlying3 (hval 2 3 v2 rfl rfl) h2
  clear hA0 hval0
  refine (walk a0 a1 a2 W w0 w1 w2).mono fun e W' ⟨he, bel⟩ => ?_
  subst he
  exact ⟨_, rfl, _, _, _, [], _, [], hW', trodAll_mk1 (shut_bool Try.underlying4 _), (trodAll_cons_mk (Below.trod laidOut (by kernel_rfl) (of_decide_eq_true (by kernel_rfl)) h0 bel (fun x hx => by first | exact absurd hx (by simp) | exact hlt x (by simpa using hx) | exact hlt x (by simp; exact Or.inl hx) | exact hlt x (by simp; exact Or.inr hx) | exact hlt x (by simp; exact Or.inr (Or.inl hx)) | exact hlt x (by simp; exact Or.inr (Or.inr hx)))) (trodAll_cons_mk (Below.trod laidOut (by kernel_rfl) (of_decide_eq_true (by kernel_rfl)) h1 bel (fun x hx => by first | exact absurd hx (by simp) | exact hlt x (by simpa using hx) | exact hlt x (by simp; exact Or.inl hx) | exact hlt x (by simp; exact Or.inr hx) | exact hlt x (by simp; exact Or.inr (Or.inl hx)) | exact hlt x (by simp; exact Or.inr (Or.inr hx)))) (trodAll_cons_mk (Below.trod laidOut (by kernel_rfl) (of_decide_eq_true (by kernel_rfl)) h2 bel (fun x hx => by first | exact absurd hx (by simp) | exact hlt x (by simpa using hx) | exact hlt x (by simp; exact Or.inl hx) | exact hlt x (by simp; exact Or.inr hx) | exact hlt x (by simp; exact Or.inr (Or.inl hx)) | exact hlt x (by simp; exact Or.inr (Or.inr hx)))) trodAll_mk0))), rfl, bel.frame _, fun h => by cases h⟩

theorem over : Rows.macCutsRow.holds Try.pinned (OpenSpec.ofChange Rows.macCutsSpec) :=
  OpenClaim.holds_of_wide 6 Try.f6 rfl rfl rfl rfl rfl rfl rfl ⟨rfl, rfl, rfl, rfl, rfl⟩ rfl rfl rfl rfl rfl (by kernel_rfl) Try.func6 (by kernel_rfl)
    (of_decide_eq_true (by kernel_rfl)) (by unfold Func.isWrapper; first | (rw [if_pos (by decide +kernel)]; kernel_rfl) | (rw [if_neg (by decide +kernel)]; exact ⟨rfl, rfl⟩))
    (fun os started H enc _ => lifted os started H enc)

theorem proved : Rows.MacCutsSaid :=
  over
end Go.Proofs.Ythfljfampfioaaa.lcuts
