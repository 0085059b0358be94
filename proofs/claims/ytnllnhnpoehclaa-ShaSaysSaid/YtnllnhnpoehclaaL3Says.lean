/-
  The statement ShaSays (P3.1 to P3.3): the hashes of any string, with tables in which one number is modified, agree with the reference. Conditions: none; for every input that the form speaks of.
-/
import Derived.Test.YtnllnhnpoehclaaRows
import Derived.Test.YtnllnhnpoehclaaAwake3
import Derived.Test.YtnllnhnpoehclaaRHash
import Derived.Test.YtnllnhnpoehclaaRMake
import Derived.ProofKit
import Derived.OpenShut
import Derived.ShutString
import Derived.Carry
namespace Go.Proofs.Ytnllnhnpoehclaa.lsays
open Go.ChangeShapes Go.WideShapes Go.ChangeAt Go.RowKit
open Go.ChangeMaps (open_string shut_string)
open Go.Proofs.Ytnllnhnpoehclaa.arr Go.Proofs.Ytnllnhnpoehclaa.mem Go.Proofs.Ytnllnhnpoehclaa.tabv Go.Proofs.Ytnllnhnpoehclaa.built Go.Proofs.Ytnllnhnpoehclaa.hashs Go.Proofs.Ytnllnhnpoehclaa.tabs
set_option linter.unusedVariables false
theorem own : ownKnob Try.prog.godebug = none := by kernel_rfl
theorem laidOut : laidOutB Try.prog = true := by kernel_rfl
theorem rem_of (i : Int) (c : Nat) (hc : 0 < c) (hc2 : c < 1000) : ∃ r : Nat, r < c ∧ (IntKind.u64.wrap i) % (c : Int) = (r : Int) ∧ (IntKind.u64.wrap i).tmod (c : Int) = (r : Int) := by
  have h : 0 ≤ IntKind.u64.wrap i := by rw [IntKind.wrap_u64]; omega
  have h2 := Int.emod_nonneg (IntKind.u64.wrap i) (show (c : Int) ≠ 0 by omega)
  have h3 := Int.emod_lt_of_pos (IntKind.u64.wrap i) (show (0 : Int) < c by omega)
  refine ⟨((IntKind.u64.wrap i) % (c : Int)).toNat, by omega, by omega, ?_⟩
  rw [Int.tmod_eq_emod_of_nonneg h]; omega
theorem store_newg {P : Program} {ops : Array Oper} {Q : Exit → Act → World → Prop} {rest : List Oper} {o : Oper} {a : Act} {w0 : World} {old : Array Value} {t : TypeId} (hgd : o.guard = none) (ty : TypeId) (x y : Operand) (ho : o.op = .store ty x y)
    (cells : Array Value) (g : Nat) (hg : g = w0.heap.size) (hx : a.eval x = .pointer (some ⟨g, 0, none⟩)) (hy : a.eval y = .agg cells) (hi : (P.info? ty).map (·.size) = some cells.size) (hold : old.size = cells.size) (h1 : cells.all (·.oneCell') = true) (hn : o.dst = none)
    (h : wpList P ops Q rest a (w0.alloc (.cells cells t))) : wpList P ops Q (o :: rest) a (w0.alloc (.cells old t)) := by
  subst hg
  exact wpList_store_new hgd ty x y ho cells hx hy hi hold h1 hn h
set_option maxRecDepth 100000 in
set_option maxHeartbeats 4000000 in
theorem far (s : ByteArray) (at0 u : Int) (w : World) (h : 2000 < s.size) :
    Calls Try.prog 3 #[.string s, .int .i64 at0, .int .u64 u] w fun e w' => e = .returned (.bool true) ∧ Below w.heap.size w w' := by
  go_enter Try.func3, Try.ntmps3
  go_wp2_with fail
  refine (awake3.awake_any _).mono ?_
  rintro e w3 ⟨rfl, hb⟩
  go_wp2_with fail
  go_ret
  exact ⟨rfl, hb⟩
set_option maxRecDepth 100000 in
set_option maxHeartbeats 4000000 in
theorem near (s : ByteArray) (i : Int) (u r q : Nat) (w : World) (hs : s.size ≤ 2000) (hu : u < 18446744073709551616) (hr : r < 80) (er : (IntKind.u64.wrap i) % 80 = (r : Int)) (er2 : (IntKind.u64.wrap i).tmod 80 = (r : Int))
    (hq : q < 64) (eq : (IntKind.u64.wrap i) % 64 = (q : Int)) (eq2 : (IntKind.u64.wrap i).tmod 64 = (q : Int)) :
    Calls Try.prog 3 #[.string s, .int .i64 i, .int .u64 (u : Int)] w fun e w' => e = .returned (.bool true) ∧ Below w.heap.size w w' := by
  obtain ⟨hz, hsize⟩ := zero_of_info infoT
  obtain ⟨Z, HZ⟩ := ex_eq TZ
  rw [HZ.out] at hz
  have HZs : Away (Z.size = 465) := ⟨by rw [← HZ.out]; exact tz_size⟩
  have Hsize := Away.mk hsize
  clear hsize
  have htf := tf_doc
  obtain ⟨T, HT⟩ := ex_eq TA
  rw [HT.out] at htf
  have HTs : Away (T.size = 465) := ⟨htf.size⟩
  have HTo : Away (T.all (·.oneCell') = true) := ⟨htf.one⟩
  have Hmk : Away (∀ w1 : World, Calls Try.prog 8 #[] w1 fun e w' => e = .returned (.agg T) ∧ Below w1.heap.size w1 w') := ⟨fun w1 => by rw [← HT.out]; exact rmake.make_any w1⟩
  have ha := htf.k64 r hr
  have bc := htf.bk64 r
  obtain ⟨c, hc⟩ : ∃ c, k64.getD r 0 = c := ⟨_, rfl⟩
  rw [hc] at ha bc
  have hx1 := u64_xor_nat c u bc hu
  have htx := tf_large htf k64_length r (c ^^^ u) hr (Nat.xor_lt_two_pow (n := 64) bc hu)
  rw [← hx1] at htx
  obtain ⟨X, HX⟩ := ex_eq (T.setIfInBounds (72 + r) (.int .u64 (bits .xor .u64 (c : Int) (u : Int))))
  rw [HX.out] at htx
  have hd := htx.k32 q hq
  rw [Nat.zero_add] at hd
  have bd := htx.bk32 q
  obtain ⟨d, hd2⟩ : ∃ d, k32.getD q 0 = d := ⟨_, rfl⟩
  rw [hd2] at hd bd
  have hx2 := u32_xor_nat d (u % 4294967296) bd (by omega)
  have htv := tf_small htx k32_length q (d ^^^ u % 4294967296) hq (Nat.xor_lt_two_pow (n := 32) bd (by omega))
  rw [← hx2] at htv
  rw [show ((u % 4294967296 : Nat) : Int) = (u : Int) % 4294967296 by omega] at htv
  obtain ⟨V, HV⟩ := ex_eq (X.setIfInBounds q (.int .u32 (bits .xor .u32 (d : Int) ((u : Int) % 4294967296))))
  rw [HV.out] at htv
  have hXs : X.size = 465 := htx.size
  have HVs : Away (V.size = 465) := ⟨htv.size⟩
  obtain ⟨K3, hK3⟩ : ∃ K3, k32.set q (d ^^^ u % 4294967296) = K3 := ⟨_, rfl⟩
  obtain ⟨K6, hK6⟩ : ∃ K6, k64.set r (c ^^^ u) = K6 := ⟨_, rfl⟩
  rw [hK3, hK6] at htv
  have H1 : Away (∀ w1 : World, Calls Try.prog 9 #[.agg V, .string s] w1 fun e w' => e = .returned (.string ⟨(hs32 K3 s32 s.data.toList).toArray⟩) ∧ Below w1.heap.size w1 w') := ⟨fun w1 => whole32 V _ _ _ _ s w1 htv (by omega)⟩
  have H2 : Away (∀ w1 : World, Calls Try.prog 10 #[.agg V, .string s] w1 fun e w' => e = .returned (.string ⟨(hs32 K3 s32 s.data.toList).toArray⟩) ∧ Below w1.heap.size w1 w') := ⟨fun w1 => rhash.whole32 V _ _ _ _ s w1 htv (by omega)⟩
  have H3 : Away (∀ w1 : World, Calls Try.prog 11 #[.agg V, .string s] w1 fun e w' => e = .returned (.string ⟨(hs64 K6 s64 s.data.toList).toArray⟩) ∧ Below w1.heap.size w1 w') := ⟨fun w1 => whole64 V _ _ _ _ s w1 htv (by omega)⟩
  have H4 : Away (∀ w1 : World, Calls Try.prog 12 #[.agg V, .string s] w1 fun e w' => e = .returned (.string ⟨(hs64 K6 s64 s.data.toList).toArray⟩) ∧ Below w1.heap.size w1 w') := ⟨fun w1 => rhash.whole64 V _ _ _ _ s w1 htv (by omega)⟩
  have H5 : Away (∀ w1 : World, Calls Try.prog 13 #[.agg V, .string s] w1 fun e w' => e = .returned (.string ⟨(hs32 K3 s32 (dg s.data.toList)).toArray⟩) ∧ Below w1.heap.size w1 w') := ⟨fun w1 => digest_any V _ _ _ _ s w1 htv (by omega)⟩
  have H6 : Away (∀ w1 : World, Calls Try.prog 14 #[.agg V, .string s] w1 fun e w' => e = .returned (.string ⟨(hs32 K3 s32 (dg s.data.toList)).toArray⟩) ∧ Below w1.heap.size w1 w') := ⟨fun w1 => rhash.rdigest_any V _ _ _ _ s w1 htv (by omega)⟩
  obtain ⟨A, HA⟩ := ex_eq (⟨(hs32 K3 s32 s.data.toList).toArray⟩ : ByteArray)
  obtain ⟨B, HB⟩ := ex_eq (⟨(hs64 K6 s64 s.data.toList).toArray⟩ : ByteArray)
  obtain ⟨D, HD⟩ := ex_eq (⟨(hs32 K3 s32 (dg s.data.toList)).toArray⟩ : ByteArray)
  rw [HA.out] at H1 H2
  rw [HB.out] at H3 H4
  rw [HD.out] at H5 H6
  have lr : (r : Int) < 80 := by omega
  have lq : (q : Int) < 64 := by omega
  clear htf htx htv hx1 hx2 hc hd2 HT HZ hu hK3 hK6 HA HB HD
  go_enter Try.func3, Try.ntmps3
  go_wp2_with fail
  refine (Hmk.out _).mono ?_
  rintro e w1 ⟨rfl, hb1⟩
  have Hb1 := Away.mk hb1
  clear hb1
  have hX := HX.out
  go_wp2_with (refine wpList_store_new rfl 33 _ _ rfl T rfl rfl (by rw [HTs.out]; exact Hsize.out) (by rw [HTs.out]; exact HZs.out) HTo.out rfl ?_)
  clear hz
  rw [HV.out]
  obtain ⟨W, hW⟩ : ∃ W, w1.alloc (.cells V 33) = W := ⟨_, rfl⟩
  have hg1 : W.heap[w1.heap.size]? = some (.cells V 33 (0, 0)) := by rw [← hW, heap_at _ _ _ rfl]
  have Hb : Away (Below w.heap.size w W) := ⟨by rw [← hW]; exact Hb1.out.alloc Hb1.out.size _⟩
  rw [hW]
  have G1 := Away.mk hg1
  clear hW hg1 ha hd hX hXs
  refine wp_region_quiet_below (by kernel_rfl) (by kernel_rfl) ?_
  refine wpQuiet_load rfl 33 _ rfl _ rfl 33 _ _ (fun w' hC => heap_regrown G1.out hC) Try.underlying33 rfl (by rw [HVs.out]; exact sizeT) ?_
  quiet_step (skip)
  quiet_step (exact Calls.regrown_of (H1.out _))
  refine wpQuiet_load rfl 33 _ rfl _ rfl 33 _ _ (fun w' hC => heap_regrown G1.out hC) Try.underlying33 rfl (by rw [HVs.out]; exact sizeT) ?_
  quiet_step (skip)
  quiet_step (exact Calls.regrown_of (H2.out _))
  quiet_step (skip)
  quiet_step (skip)
  refine wpQuiet_load rfl 33 _ rfl _ rfl 33 _ _ (fun w' hC => heap_regrown G1.out hC) Try.underlying33 rfl (by rw [HVs.out]; exact sizeT) ?_
  quiet_step (skip)
  quiet_step (exact Calls.regrown_of (H3.out _))
  refine wpQuiet_load rfl 33 _ rfl _ rfl 33 _ _ (fun w' hC => heap_regrown G1.out hC) Try.underlying33 rfl (by rw [HVs.out]; exact sizeT) ?_
  quiet_step (skip)
  quiet_step (exact Calls.regrown_of (H4.out _))
  quiet_step (skip)
  quiet_step (skip)
  quiet_step (skip)
  refine wpQuiet_load rfl 33 _ rfl _ rfl 33 _ _ (fun w' hC => heap_regrown G1.out hC) Try.underlying33 rfl (by rw [HVs.out]; exact sizeT) ?_
  quiet_step (skip)
  quiet_step (exact Calls.regrown_of (H5.out _))
  refine wpQuiet_load rfl 33 _ rfl _ rfl 33 _ _ (fun w' hC => heap_regrown G1.out hC) Try.underlying33 rfl (by rw [HVs.out]; exact sizeT) ?_
  quiet_step (skip)
  quiet_step (exact Calls.regrown_of (H6.out _))
  quiet_step (skip)
  quiet_step (skip)
  quiet_step (skip)
  quiet_step (exact Calls.regrown_of (awake3.awake_any _))
  quiet_step (skip)
  quiet_step (skip)
  refine wpQuiet_nil ?_
  intro w3 hC
  have hb3 : Away (Below W.heap.size W w3) := ⟨by
    obtain ⟨pp, rfl⟩ := hC
    exact below_regrown _ _ _⟩
  clear hC
  go_wp2_with fail
  go_ret
  exact ⟨rfl, Hb.out.trans (hb3.out.mono Hb.out.size)⟩
theorem walk (s : ByteArray) (i u : Int) (w : World) (w0 : s.size ≤ maxLen) (w1 : (Lit.int .i64 i).wf = true) (w2 : (Lit.int .u64 u).wf = true) :
    Calls Try.prog 3 #[.string s, .int .i64 i, .int .u64 u] w fun e w' => e = .returned (.bool true) ∧ Below w.heap.size w w' := by
  by_cases h : 2000 < s.size
  · exact far s i u w h
  have hu := bounds_u64 w2
  obtain ⟨m, rfl⟩ := Int.eq_ofNat_of_zero_le hu.1
  obtain ⟨r, hr, e1, e2⟩ := rem_of i 80 (by decide) (by decide)
  obtain ⟨q, hq, e3, e4⟩ := rem_of i 64 (by decide) (by decide)
  exact near s i m r q w (by omega) (by omega) hr e1 e2 hq e3 e4

/-! ### The row -/
set_option maxRecDepth 100000 in
theorem lifted (os : Os) (started : os.Started) (H : Type) (enc : TypeId × Value → H) :
    ReturnsInHanded {} Try.checked os 3 .any (Rows.shaSaysSpec.pre6 enc Try.prog Try.f3 Rows.shaSaysRow.domain false) (Rows.shaSaysSpec.post enc Try.prog Try.f3 false true false false) := by
  refine returnsInHanded_of_change (C := Try.checked) own started (by kernel_rfl) Try.func3
    (ChangeSpec.witness6 (enc := enc) (C := Try.checked) false ⟨#[], #[.string ByteArray.empty, .int .i64 0, .int .u64 0], []⟩ 8 (by kernel_rfl) (by kernel_rfl) (by kernel_rfl) (by kernel_rfl)) ?_
  intro W base args ds gs before hval0 hW hcnd _
  have hval : ∀ (j : Nat) t v, Try.f3.params[j]? = some t → args[j]? = some v → Value.okWide Try.prog W .any base t v := hval0
  have hW' := hW
  have hlt := hW.lt
  obtain ⟨p, q, hA0, hV, rfl, hfz, hnd⟩ := hW
  have hA : DataW.TrodAll enc Try.prog W 0 (fun _ => true) true Try.f3.params.toList args.toList ds p := hA0
  rw [Try.params3] at hA hval
  obtain ⟨v0, vs0, d0, ds0, p0, q0, hargs, rfl, rfl, h0, r0⟩ := trodAll_cons hA
  obtain ⟨v1, vs1, d1, ds1, p1, q1, rfl, rfl, rfl, h1, r1⟩ := trodAll_cons r0
  obtain ⟨v2, vs2, d2, ds2, p2, q2, rfl, rfl, rfl, h2, r2⟩ := trodAll_cons r1
  obtain ⟨rfl, rfl, rfl⟩ := trodAll_nil r2
  obtain rfl : args = #[v0, v1, v2] := by cases args; simp_all
  obtain ⟨rfl, rfl⟩ := trodVars_none hV
  obtain ⟨a0, rfl, rfl, rfl, w0⟩ := open_string Try.underlying9 (hval 0 9 v0 rfl rfl) h0
  obtain ⟨a1, rfl, rfl, rfl, w1⟩ := open_int Try.underlying3 (hval 1 3 v1 rfl rfl) h1
  obtain ⟨a2, rfl, rfl, rfl, w2⟩ := open_int Try.underlying22 (hval 2 22 v2 rfl rfl) h2
  clear hA0 hval0
  refine (walk a0 a1 a2 W w0 w1 w2).mono fun e W' ⟨he, bel⟩ => ?_
  subst he
  exact ⟨_, rfl, _, _, _, [], _, [], hW', trodAll_mk1 (shut_bool Try.underlying4 _), (trodAll_cons_mk (Below.trod laidOut (by kernel_rfl) (of_decide_eq_true (by kernel_rfl)) h0 bel (fun x hx => by first | exact absurd hx (by simp) | exact hlt x (by simpa using hx) | exact hlt x (by simp; exact Or.inl hx) | exact hlt x (by simp; exact Or.inr hx) | exact hlt x (by simp; exact Or.inr (Or.inl hx)) | exact hlt x (by simp; exact Or.inr (Or.inr hx)))) (trodAll_cons_mk (Below.trod laidOut (by kernel_rfl) (of_decide_eq_true (by kernel_rfl)) h1 bel (fun x hx => by first | exact absurd hx (by simp) | exact hlt x (by simpa using hx) | exact hlt x (by simp; exact Or.inl hx) | exact hlt x (by simp; exact Or.inr hx) | exact hlt x (by simp; exact Or.inr (Or.inl hx)) | exact hlt x (by simp; exact Or.inr (Or.inr hx)))) (trodAll_cons_mk (Below.trod laidOut (by kernel_rfl) (of_decide_eq_true (by kernel_rfl)) h2 bel (fun x hx => by first | exact absurd hx (by simp) | exact hlt x (by simpa using hx) | exact hlt x (by simp; exact Or.inl hx) | exact hlt x (by simp; exact Or.inr hx) | exact hlt x (by simp; exact Or.inr (Or.inl hx)) | exact hlt x (by simp; exact Or.inr (Or.inr hx)))) trodAll_mk0))), rfl, bel.frame _, fun h => by cases h⟩

theorem over : Rows.shaSaysRow.holds Try.pinned (OpenSpec.ofChange Rows.shaSaysSpec) :=
  OpenClaim.holds_of_wide 3 Try.f3 rfl rfl rfl rfl rfl rfl rfl ⟨rfl, rfl, rfl, rfl, rfl⟩ rfl rfl rfl rfl rfl (by kernel_rfl) Try.func3 (by kernel_rfl)
    (of_decide_eq_true (by kernel_rfl)) (by unfold Func.isWrapper; first | (rw [if_pos (by decide +kernel)]; kernel_rfl) | (rw [if_neg (by decide +kernel)]; exact ⟨rfl, rfl⟩))
    (fun os started H enc _ => lifted os started H enc)

theorem proved : Rows.ShaSaysSaid :=
  over
end Go.Proofs.Ytnllnhnpoehclaa.lsays
