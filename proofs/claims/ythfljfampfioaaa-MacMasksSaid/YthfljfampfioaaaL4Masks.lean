/-
  The statement MacMasks (P4.5): a longer mask begins with a shorter one; each has as many bytes as were asked for. Conditions: none; for every input that the form speaks of.
-/
import Derived.Test.YthfljfampfioaaaRows
import Derived.Test.YthfljfampfioaaaAwake4
import Derived.ShutString
import Derived.ProofKit
import Derived.OpenShut
import Derived.Carry
namespace Go.Proofs.Ythfljfampfioaaa.lmasks
open Go.ChangeShapes Go.WideShapes Go.ChangeAt Go.RowKit
open Go.ChangeMaps (open_string shut_string)
open Go.Proofs.Ythfljfampfioaaa.arr Go.Proofs.Ythfljfampfioaaa.mem Go.Proofs.Ythfljfampfioaaa.tabv Go.Proofs.Ythfljfampfioaaa.built Go.Proofs.Ythfljfampfioaaa.hashs Go.Proofs.Ythfljfampfioaaa.macm
set_option linter.unusedVariables false
theorem own : ownKnob Try.prog.godebug = none := by kernel_rfl
theorem laidOut : laidOutB Try.prog = true := by kernel_rfl

theorem rem_of (i : Int) (c : Nat) (hc : 0 < c) (hc2 : c < 1000) : ∃ r : Nat, r < c ∧ (IntKind.u64.wrap i) % (c : Int) = (r : Int) ∧ (IntKind.u64.wrap i).tmod (c : Int) = (r : Int) := by
  have h : 0 ≤ IntKind.u64.wrap i := by rw [IntKind.wrap_u64]; omega
  have h2 := Int.emod_nonneg (IntKind.u64.wrap i) (show (c : Int) ≠ 0 by omega)
  have h3 := Int.emod_lt_of_pos (IntKind.u64.wrap i) (show (0 : Int) < c by omega)
  refine ⟨((IntKind.u64.wrap i) % (c : Int)).toNat, by omega, by omega, ?_⟩
  rw [Int.tmod_eq_emod_of_nonneg h]; omega
theorem pre_bytes (l m : List UInt8) (r : Nat) (h : l.take r = m) : (⟨l.toArray⟩ : ByteArray).extract 0 r = ⟨m.toArray⟩ := by
  subst h
  apply ByteArray.ext
  simp
set_option maxRecDepth 100000 in
set_option maxHeartbeats 2000000 in
theorem far (s : ByteArray) (n m : Int) (w : World) (h : 2000 < s.size) :
    Calls Try.prog 4 #[.string s, .int .i64 n, .int .i64 m] w fun e w' => e = .returned (.bool true) ∧ Below w.heap.size w w' := by
  go_enter Try.func4, Try.ntmps4
  go_wp2_with fail
  refine (awake4.live_any _).mono ?_
  rintro e w3 ⟨rfl, hb⟩
  go_wp2_with fail
  go_ret
  exact ⟨rfl, hb⟩
set_option maxRecDepth 100000 in
set_option maxHeartbeats 4000000 in
theorem near (s : ByteArray) (n m : Int) (r q : Nat) (w : World) (hs : s.size ≤ 2000) (hr : r < 300) (er : (IntKind.u64.wrap n) % 300 = (r : Int)) (er2 : (IntKind.u64.wrap n).tmod 300 = (r : Int))
    (hq : q < 300) (eq : (IntKind.u64.wrap m) % 300 = (q : Int)) (eq2 : (IntKind.u64.wrap m).tmod 300 = (q : Int)) :
    Calls Try.prog 4 #[.string s, .int .i64 n, .int .i64 m] w fun e w' => e = .returned (.bool true) ∧ Below w.heap.size w w' := by
  obtain ⟨hz, hsize⟩ := zero_of_info infoT
  obtain ⟨Z, HZ⟩ := ex_eq TZ
  rw [HZ.out] at hz
  have HZs : Away (Z.size = 465) := ⟨by rw [← HZ.out]; exact tz_size⟩
  have Hsize := Away.mk hsize
  clear hsize
  have htx := awake4.tx_doc
  obtain ⟨T, HT⟩ := ex_eq TA
  rw [HT.out] at htx
  have HTs : Away (T.size = 465) := ⟨htx.size⟩
  have HTo : Away (T.all (·.oneCell') = true) := ⟨htx.one⟩
  have Hmk : Away (∀ w1 : World, Calls Try.prog 17 #[] w1 fun e w' => e = .returned (.agg T) ∧ Below w1.heap.size w1 w') := ⟨fun w1 => by rw [← HT.out]; exact make.make_any w1⟩
  obtain ⟨A, hA⟩ : ∃ A : ByteArray, (⟨(ms wx false s.data.toList (r : Int)).toArray⟩ : ByteArray) = A := ⟨_, rfl⟩
  obtain ⟨B, hB⟩ : ∃ B : ByteArray, (⟨(ms wx false s.data.toList ((r + q : Nat) : Int)).toArray⟩ : ByteArray) = B := ⟨_, rfl⟩
  have sA : A.size = r := by rw [← hA]; show (ms wx false s.data.toList (r : Int)).toArray.size = _; rw [List.size_toArray, ms_length _ _ _ _ (by omega)]
  have sB : B.size = r + q := by rw [← hB]; show (ms wx false s.data.toList ((r + q : Nat) : Int)).toArray.size = _; rw [List.size_toArray, ms_length _ _ _ _ (by omega)]
  have xB : B.extract 0 r = A := by rw [← hB, ← hA]; exact pre_bytes _ _ _ (ms_pre _ _ _ _ _ (by omega))
  have HA : Away (∀ w1 : World, Calls Try.prog 13 #[.agg T, .bool false, .string s, .int .i64 (r : Int)] w1 fun e w' => e = .returned (.string A) ∧ Below w1.heap.size w1 w') := ⟨fun w1 => by rw [← hA]; exact mask.mask_any T wx false s r w1 htx (by omega)⟩
  have HB : Away (∀ w1 : World, Calls Try.prog 13 #[.agg T, .bool false, .string s, .int .i64 ((r : Int) + (q : Int))] w1 fun e w' => e = .returned (.string B) ∧ Below w1.heap.size w1 w') := ⟨fun w1 => by
    rw [← hB, show (r : Int) + (q : Int) = ((r + q : Nat) : Int) by omega]; exact mask.mask_any T wx false s ((r + q : Nat) : Int) w1 htx (by omega)⟩
  clear hA hB
  obtain ⟨C, hC⟩ : ∃ C : ByteArray, (⟨(ms wx true s.data.toList (r : Int)).toArray⟩ : ByteArray) = C := ⟨_, rfl⟩
  obtain ⟨D, hD⟩ : ∃ D : ByteArray, (⟨(ms wx true s.data.toList ((r + q : Nat) : Int)).toArray⟩ : ByteArray) = D := ⟨_, rfl⟩
  have sC : C.size = r := by rw [← hC]; show (ms wx true s.data.toList (r : Int)).toArray.size = _; rw [List.size_toArray, ms_length _ _ _ _ (by omega)]
  have sD : D.size = r + q := by rw [← hD]; show (ms wx true s.data.toList ((r + q : Nat) : Int)).toArray.size = _; rw [List.size_toArray, ms_length _ _ _ _ (by omega)]
  have xD : D.extract 0 r = C := by rw [← hD, ← hC]; exact pre_bytes _ _ _ (ms_pre _ _ _ _ _ (by omega))
  have HC : Away (∀ w1 : World, Calls Try.prog 13 #[.agg T, .bool true, .string s, .int .i64 (r : Int)] w1 fun e w' => e = .returned (.string C) ∧ Below w1.heap.size w1 w') := ⟨fun w1 => by rw [← hC]; exact mask.mask_any T wx true s r w1 htx (by omega)⟩
  have HD : Away (∀ w1 : World, Calls Try.prog 13 #[.agg T, .bool true, .string s, .int .i64 ((r : Int) + (q : Int))] w1 fun e w' => e = .returned (.string D) ∧ Below w1.heap.size w1 w') := ⟨fun w1 => by
    rw [← hD, show (r : Int) + (q : Int) = ((r + q : Nat) : Int) by omega]; exact mask.mask_any T wx true s ((r + q : Nat) : Int) w1 htx (by omega)⟩
  clear hC hD
  have hw : IntKind.i64.wrap ((r : Int) + (q : Int)) = (r : Int) + (q : Int) := by rw [IntKind.wrap_i64]; omega
  clear htx HT HZ
  go_enter Try.func4, Try.ntmps4
  go_wp2_with fail
  refine (Hmk.out _).mono ?_
  rintro e w1 ⟨rfl, hb1⟩
  go_wp2_with (refine wpList_store_new rfl 33 _ _ rfl _ rfl rfl (by rw [HTs.out]; exact Hsize.out) (by rw [HTs.out]; exact HZs.out) HTo.out rfl ?_)
  clear hz
  obtain ⟨W, hW⟩ : ∃ W, w1.alloc (.cells T 33) = W := ⟨_, rfl⟩
  have Hg : Away (W.heap[w1.heap.size]? = some (.cells T 33 (0, 0))) := ⟨by rw [← hW, heap_at _ _ _ rfl]⟩
  have Hb : Away (Below w.heap.size w W) := ⟨by rw [← hW]; exact hb1.alloc hb1.size _⟩
  rw [hW]
  clear hW hb1
  refine wp_region_quiet_below (by kernel_rfl) (by kernel_rfl) ?_
  refine wpQuiet_load rfl 33 _ rfl _ rfl 33 _ _ (fun w' hC => heap_regrown Hg.out hC) Try.underlying33 rfl (by rw [HTs.out]; exact sizeT) ?_
  quiet_step (skip)
  quiet_step (skip)
  quiet_step (exact Calls.regrown_of (HA.out _))
  refine wpQuiet_load rfl 33 _ rfl _ rfl 33 _ _ (fun w' hC => heap_regrown Hg.out hC) Try.underlying33 rfl (by rw [HTs.out]; exact sizeT) ?_
  quiet_step (skip)
  quiet_step (skip)
  quiet_step (skip)
  quiet_step (skip)
  quiet_step (exact Calls.regrown_of (HB.out _))
  quiet_step (skip)
  quiet_step (skip)
  refine wpQuiet_nil ?_
  intro w3 hC
  have hb3 : Below W.heap.size W w3 := by
    obtain ⟨pp, rfl⟩ := hC
    exact below_regrown _ _ _
  have Hb3 : Away (Below w.heap.size w w3) := ⟨Hb.out.trans (hb3.mono Hb.out.size)⟩
  have Hg3 : Away (w3.heap[w1.heap.size]? = some (.cells T 33 (0, 0))) := ⟨(hb3.block _ (lt_of_row Hg.out)).trans Hg.out⟩
  clear hC hb3
  go_wp2_with fail
  refine wp_region_quiet_below (by kernel_rfl) (by kernel_rfl) ?_
  refine wpQuiet_load rfl 33 _ rfl _ rfl 33 _ _ (fun w' hC => heap_regrown Hg3.out hC) Try.underlying33 rfl (by rw [HTs.out]; exact sizeT) ?_
  quiet_step (skip)
  quiet_step (skip)
  quiet_step (exact Calls.regrown_of (HC.out _))
  refine wpQuiet_load rfl 33 _ rfl _ rfl 33 _ _ (fun w' hC => heap_regrown Hg3.out hC) Try.underlying33 rfl (by rw [HTs.out]; exact sizeT) ?_
  quiet_step (skip)
  quiet_step (skip)
  quiet_step (skip)
  quiet_step (skip)
  quiet_step (exact Calls.regrown_of (HD.out _))
  quiet_step (skip)
  quiet_step (skip)
  refine wpQuiet_nil ?_
  intro w5 hC
  have hb5 : Below w3.heap.size w3 w5 := by
    obtain ⟨pp, rfl⟩ := hC
    exact below_regrown _ _ _
  have Hb5 : Away (Below w.heap.size w w5) := ⟨Hb3.out.trans (hb5.mono Hb3.out.size)⟩
  clear hC hb5
  go_wp2_with fail
  refine (awake4.live_any _).mono ?_
  rintro e w6 ⟨rfl, hb6⟩
  have Hb6 : Away (Below w.heap.size w w6) := ⟨Hb5.out.trans (hb6.mono Hb5.out.size)⟩
  clear hb6
  go_wp2_with fail
  go_ret
  exact ⟨rfl, Hb6.out⟩
theorem walk (s : ByteArray) (n m : Int) (w : World) (w0 : s.size ≤ maxLen) (w1 : (Lit.int .i64 n).wf = true) (w2 : (Lit.int .i64 m).wf = true) :
    Calls Try.prog 4 #[.string s, .int .i64 n, .int .i64 m] w fun e w' => e = .returned (.bool true) ∧ Below w.heap.size w w' := by
  by_cases h : 2000 < s.size
  · exact far s n m w h
  obtain ⟨r, hr, e1, e2⟩ := rem_of n 300 (by decide) (by decide)
  obtain ⟨q, hq, e3, e4⟩ := rem_of m 300 (by decide) (by decide)
  exact near s n m r q w (by omega) hr e1 e2 hq e3 e4

/-! ### The row -/
set_option maxRecDepth 100000 in
theorem lifted (os : Os) (started : os.Started) (H : Type) (enc : TypeId × Value → H) :
    ReturnsInHanded {} Try.checked os 4 .any (Rows.macMasksSpec.pre6 enc Try.prog Try.f4 Rows.macMasksRow.domain false) (Rows.macMasksSpec.post enc Try.prog Try.f4 false true false false) := by
  refine returnsInHanded_of_change (C := Try.checked) own started (by kernel_rfl) Try.func4
    (ChangeSpec.witness6 (enc := enc) (C := Try.checked) false ⟨#[], #[.string ByteArray.empty, .int .i64 0, .int .i64 0], []⟩ 8 (by kernel_rfl) (by kernel_rfl) (by kernel_rfl) (by kernel_rfl)) ?_
  intro W base args ds gs before hval0 hW hcnd _
  have hval : ∀ (j : Nat) t v, Try.f4.params[j]? = some t → args[j]? = some v → Value.okWide Try.prog W .any base t v := hval0
  have hW' := hW
  have hlt := hW.lt
  obtain ⟨p, q, hA0, hV, rfl, hfz, hnd⟩ := hW
  have hA : DataW.TrodAll enc Try.prog W 0 (fun _ => true) true Try.f4.params.toList args.toList ds p := hA0
  rw [Try.params4] at hA hval
  obtain ⟨v0, vs0, d0, ds0, p0, q0, hargs, rfl, rfl, h0, r0⟩ := trodAll_cons hA
  obtain ⟨v1, vs1, d1, ds1, p1, q1, rfl, rfl, rfl, h1, r1⟩ := trodAll_cons r0
  obtain ⟨v2, vs2, d2, ds2, p2, q2, rfl, rfl, rfl, h2, r2⟩ := trodAll_cons r1
  obtain ⟨rfl, rfl, rfl⟩ := trodAll_nil r2
  obtain rfl : args = #[v0, v1, v2] := by cases args; simp_all
  obtain ⟨rfl, rfl⟩ := trodVars_none hV
  obtain ⟨a0, rfl, rfl, rfl, w0⟩ := open_string Try.underlying9 (hval 0 9 v0 rfl rfl) h0
  obtain ⟨a1, rfl, rfl, rfl, w1⟩ := open_int Try.underlying3 (hval 1 3 v1 rfl rfl) h1
  obtain ⟨a2, rfl, rfl, rfl, w2⟩ := open_int Try.underlying3 (hval 2 3 v2 rfl rfl) h2
  clear hA0 hval0
  refine (walk a0 a1 a2 W w0 w1 w2).mono fun e W' ⟨he, bel⟩ => ?_
  subst he
  exact ⟨_, rfl, _, _, _, [], _, [], hW', trodAll_mk1 (shut_bool Try.underlying4 _), (trodAll_cons_mk (Below.trod laidOut (by kernel_rfl) (of_decide_eq_true (by kernel_rfl)) h0 bel (fun x hx => by first | exact absurd hx (by simp) | exact hlt x (by simpa using hx) | exact hlt x (by simp; exact Or.inl hx) | exact hlt x (by simp; exact Or.inr hx) | exact hlt x (by simp; exact Or.inr (Or.inl hx)) | exact hlt x (by simp; exact Or.inr (Or.inr hx)))) (trodAll_cons_mk (Below.trod laidOut (by kernel_rfl) (of_decide_eq_true (by kernel_rfl)) h1 bel (fun x hx => by first | exact absurd hx (by simp) | exact hlt x (by simpa using hx) | exact hlt x (by simp; exact Or.inl hx) | exact hlt x (by simp; exact Or.inr hx) | exact hlt x (by simp; exact Or.inr (Or.inl hx)) | exact hlt x (by simp; exact Or.inr (Or.inr hx)))) (trodAll_cons_mk (Below.trod laidOut (by kernel_rfl) (of_decide_eq_true (by kernel_rfl)) h2 bel (fun x hx => by first | exact absurd hx (by simp) | exact hlt x (by simpa using hx) | exact hlt x (by simp; exact Or.inl hx) | exact hlt x (by simp; exact Or.inr hx) | exact hlt x (by simp; exact Or.inr (Or.inl hx)) | exact hlt x (by simp; exact Or.inr (Or.inr hx)))) trodAll_mk0))), rfl, bel.frame _, fun h => by cases h⟩

theorem over : Rows.macMasksRow.holds Try.pinned (OpenSpec.ofChange Rows.macMasksSpec) :=
  OpenClaim.holds_of_wide 4 Try.f4 rfl rfl rfl rfl rfl rfl rfl ⟨rfl, rfl, rfl, rfl, rfl⟩ rfl rfl rfl rfl rfl (by kernel_rfl) Try.func4 (by kernel_rfl)
    (of_decide_eq_true (by kernel_rfl)) (by unfold Func.isWrapper; first | (rw [if_pos (by decide +kernel)]; kernel_rfl) | (rw [if_neg (by decide +kernel)]; exact ⟨rfl, rfl⟩))
    (fun os started H enc _ => lifted os started H enc)

theorem proved : Rows.MacMasksSaid :=
  over
end Go.Proofs.Ythfljfampfioaaa.lmasks
