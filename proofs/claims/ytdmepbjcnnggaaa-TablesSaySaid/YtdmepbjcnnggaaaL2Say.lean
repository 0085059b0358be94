/-
  The statement TablesSay (P2.1 to P2.5): primes, roots and powers of any numbers, and the tables, agree with the reference. Conditions: none; for every input that the form speaks of.
-/
import Derived.Test.YtdmepbjcnnggaaaRows
import Derived.Test.YtdmepbjcnnggaaaAwake2
import Derived.Test.YtdmepbjcnnggaaaRight
import Derived.Test.YtdmepbjcnnggaaaInts
import Derived.Test.YtdmepbjcnnggaaaOpen
import Derived.ProofKit
import Derived.OpenShut
import Derived.Carry
namespace Go.Proofs.Ytdmepbjcnnggaaa.lsay
open Go.ChangeShapes Go.WideShapes Go.ChangeAt Go.RowKit
open Go.Proofs.Ytdmepbjcnnggaaa.tabm Go.Proofs.Ytdmepbjcnnggaaa.primm Go.Proofs.Ytdmepbjcnnggaaa.tabt Go.Proofs.Ytdmepbjcnnggaaa.tabv Go.Proofs.Ytdmepbjcnnggaaa.arr Go.Proofs.Ytdmepbjcnnggaaa.eqs Go.Proofs.Ytdmepbjcnnggaaa.built Go.Proofs.Ytdmepbjcnnggaaa.right Go.Proofs.Ytdmepbjcnnggaaa.primes
open Go.Proofs.Ytdmepbjcnnggaaa.root (rootV)
set_option linter.unusedVariables false
theorem own : ownKnob Try.prog.godebug = none := by kernel_rfl
theorem laidOut : laidOutB Try.prog = true := by kernel_rfl


theorem nums_rounds : Nums .u64 (LK .u64 (rl 168)) 0 24 := fun i hi => ⟨_, by rw [Nat.zero_add]; exact lk_get .u64 (rl 168) i (by rw [rl_length]; exact hi)⟩
theorem pr_le (n : Int) : (pr n).length ≤ 100 := by
  unfold pr
  rw [List.length_take, ph_length]
  omega
/-- two slices that hold the same primes are the same to the law's comparison -/
theorem ints_pr (n : Int) (v1 v2 : Value) (w w1 w2 : World) (h1 : Holds w (pr n) v1 w1) (h2 : Holds w1 (pr n) v2 w2) :
    Calls Try.prog 8 #[v1, v2] w2 fun e w' => e = .returned (.bool true) ∧ Below w2.heap.size w2 w' := by
  have hle := pr_le n
  rcases holds_open h1 with ⟨rfl, e1⟩ | ⟨g1, c1, rfl, -, g1lt, -, hc1⟩
  · rcases holds_open h2 with ⟨rfl, -⟩ | ⟨g2, c2, rfl, -, -, -, hc2⟩
    · exact ints2.ints_nil none none 0 0 w2
    · rw [e1]
      exact ints2.ints_nil none _ 0 c2 w2
  · rcases holds_open h2 with ⟨rfl, e2⟩ | ⟨g2, c2, rfl, -, -, -, hc2⟩
    · rw [e2]
      exact ints2.ints_nil _ none c1 0 w2
    · exact ints2.ints_some (pr n) (pr n).length g1 g2 c1 c2 w2 hle (fun j hj => (h2.2.cell (p := ⟨g1, j, none⟩) g1lt).trans (hc1 j hj)) hc2

set_option maxRecDepth 100000 in
set_option maxHeartbeats 4000000 in
theorem walk_of (n p k x : Int) (w : World) (hn : n ≤ 9223372036854775807) (hx : x ≤ 9223372036854775807) :
    Calls Try.prog 3 #[.agg #[.int .i64 n, .int .i64 p, .int .i64 k, .int .i64 x]] w fun e w' => e = .returned (.bool true) ∧ Below w.heap.size w w' := by
  obtain ⟨T, HT⟩ := ex_eq TA
  have HTg : Away (eqs.Good T) := ⟨by rw [← HT.out]; exact good_ta⟩
  obtain ⟨q, hq, hq2⟩ := eq_tables HTg.out HTg.out
  obtain rfl : q = true := hq2 rfl
  obtain ⟨R, HR⟩ := ex_eq (LK .u64 (rl 168))
  have hqr := eq_rounds (xs := R) (by rw [← HR.out]; exact nums_rounds)
  have g1 := guardT
  have g2 := guardR
  have HN := Away.mk hn
  have HX := Away.mk hx
  clear hq2 hn hx
  go_enter Try.func3, Try.ntmps3
  go_wp2_with fail
  go_quiet (fail)
  go_wp2_with fail
  obtain ⟨W, hW⟩ : ∃ W, (w.alloc (.cells #[.int .i64 n, .int .i64 p, .int .i64 k, .int .i64 x] 22)).drewN nq = W := ⟨_, rfl⟩
  have HB0 : Away (Below w.heap.size w W) := ⟨by rw [← hW]; exact below_drewN ((Below.refl _ _).alloc (Nat.le_refl _) _) _⟩
  rw [hW]
  clear hW
  refine (primes_any n _).mono ?_
  rintro e w1 ⟨v1, rfl, hh1⟩
  go_wp2_with fail
  refine (rprimes_any n _).mono ?_
  rintro e w2 ⟨v2, rfl, hh2⟩
  have HB2 : Away (Below w.heap.size w w2) := ⟨(HB0.out.trans (hh1.2.mono HB0.out.size)).trans (hh2.2.mono (Nat.le_trans HB0.out.size hh1.2.size))⟩
  have Hh1 := Away.mk hh1
  have Hh2 := Away.mk hh2
  clear hh1 hh2 HB0
  go_wp2_with fail
  refine (ints_pr n v1 v2 W w1 w2 Hh1.out Hh2.out).mono ?_
  rintro e w3 ⟨rfl, hb3⟩
  have HB3 : Away (Below w.heap.size w w3) := ⟨HB2.out.trans (hb3.mono HB2.out.size)⟩
  clear hb3 HB2 Hh1 Hh2
  obtain ⟨rv, Hrv⟩ := ex_eq (rootV p k)
  obtain ⟨pv, Hpv⟩ := ex_eq (pwI x n)
  go_wp2_with fail
  refine (root.root_any p k _).mono ?_
  rintro e w4 ⟨rfl, hb4⟩
  rw [Hrv.out]
  have HB4 : Away (Below w.heap.size w w4) := ⟨HB3.out.trans (hb4.mono HB3.out.size)⟩
  clear hb4 HB3
  go_wp2_with fail
  refine (rroot.root_any p k _).mono ?_
  rintro e w5 ⟨rfl, hb5⟩
  rw [Hrv.out]
  have HB5 : Away (Below w.heap.size w w5) := ⟨HB4.out.trans (hb5.mono HB4.out.size)⟩
  clear hb5 HB4
  go_wp2_with fail
  refine (power.power_any x n _ HX.out HN.out).mono ?_
  rintro e w6 ⟨rfl, rfl⟩
  rw [Hpv.out]
  go_wp2_with fail
  refine (power.rpower_any x n _ HX.out HN.out).mono ?_
  rintro e w6 ⟨rfl, rfl⟩
  rw [Hpv.out]
  go_wp2_with fail
  refine (rounds.rounds_any _).mono ?_
  rintro e w7 ⟨rfl, hb7⟩
  rw [HR.out]
  have HB7 : Away (Below w.heap.size w w7) := ⟨HB5.out.trans (hb7.mono HB5.out.size)⟩
  clear hb7 HB5
  go_wp2_with fail
  refine (rounds.rrounds_any _).mono ?_
  rintro e w8 ⟨rfl, hb8⟩
  rw [HR.out]
  have HB8 : Away (Below w.heap.size w w8) := ⟨HB7.out.trans (hb8.mono HB7.out.size)⟩
  clear hb8 HB7
  go_wp2_with fail
  refine (make_T HT.out _).mono ?_
  rintro e w9 ⟨rfl, hb9⟩
  have HB9 : Away (Below w.heap.size w w9) := ⟨HB8.out.trans (hb9.mono HB8.out.size)⟩
  clear hb9 HB8
  go_wp2_with fail
  refine (rmake_T HT.out _).mono ?_
  rintro e w10 ⟨rfl, hb10⟩
  have HB10 : Away (Below w.heap.size w w10) := ⟨HB9.out.trans (hb10.mono HB9.out.size)⟩
  clear hb10 HB9
  go_wp2_with fail
  refine (awake.awake_any _).mono ?_
  rintro e w11 ⟨rfl, hb11⟩
  have HB11 : Away (Below w.heap.size w w11) := ⟨HB10.out.trans (hb11.mono HB10.out.size)⟩
  clear hb11 HB10 hq hqr
  go_wp2_with fail
  go_ret
  exact ⟨rfl, HB11.out⟩
theorem walk (n p k x : Int) (w : World) (w0 : (Lit.int .i64 n).wf = true) (w1 : (Lit.int .i64 p).wf = true) (w2 : (Lit.int .i64 k).wf = true) (w3 : (Lit.int .i64 x).wf = true) : Calls Try.prog 3 #[.agg #[.int .i64 n, .int .i64 p, .int .i64 k, .int .i64 x]] w fun e w' => e = .returned (.bool true) ∧ Below w.heap.size w w' :=
  walk_of n p k x w (bounds_i64 w0).2 (bounds_i64 w3).2

/-! ### The row -/
set_option maxRecDepth 100000 in
theorem lifted (os : Os) (started : os.Started) (H : Type) (enc : TypeId × Value → H) :
    ReturnsInHanded {} Try.checked os 3 .any (Rows.tablesSaySpec.pre6 enc Try.prog Try.f3 Rows.tablesSayRow.domain false) (Rows.tablesSaySpec.post enc Try.prog Try.f3 false true false false) := by
  refine returnsInHanded_of_change (C := Try.checked) own started (by kernel_rfl) Try.func3
    (ChangeSpec.witness6 (enc := enc) (C := Try.checked) false ⟨#[], #[.agg #[.int .i64 0, .int .i64 0, .int .i64 0, .int .i64 0]], []⟩ 8 (by kernel_rfl) (by kernel_rfl) (by kernel_rfl) (by kernel_rfl)) ?_
  intro W base args ds gs before hval0 hW hcnd _
  have hval : ∀ (j : Nat) t v, Try.f3.params[j]? = some t → args[j]? = some v → Value.okWide Try.prog W .any base t v := hval0
  have hW' := hW
  have hlt := hW.lt
  obtain ⟨p, q, hA0, hV, rfl, hfz, hnd⟩ := hW
  have hA : DataW.TrodAll enc Try.prog W 0 (fun _ => true) true Try.f3.params.toList args.toList ds p := hA0
  rw [Try.params3] at hA hval
  obtain ⟨v0, vs0, d0, ds0, p0, q0, hargs, rfl, rfl, h0, r0⟩ := trodAll_cons hA
  obtain ⟨rfl, rfl, rfl⟩ := trodAll_nil r0
  obtain rfl : args = #[v0] := by cases args; simp_all
  obtain ⟨rfl, rfl⟩ := trodVars_none hV
  obtain ⟨a0, b0, c0, f0, rfl, wa0, wb0, wc0, wf0⟩ := opens.open_ints4 Try.underlying22 Try.underlying3 (by kernel_rfl) (by kernel_rfl) (hval 0 22 v0 rfl rfl) h0
  clear hA0 hval0
  refine (walk a0 b0 c0 f0 W wa0 wb0 wc0 wf0).mono fun e W' ⟨he, bel⟩ => ?_
  subst he
  exact ⟨_, rfl, _, _, _, [], _, [], hW', trodAll_mk1 (shut_bool Try.underlying4 _), (trodAll_cons_mk (Below.trod laidOut (by kernel_rfl) (of_decide_eq_true (by kernel_rfl)) h0 bel (fun x hx => by first | exact absurd hx (by simp) | exact hlt x (by simpa using hx) | exact hlt x (by simp; exact Or.inl hx) | exact hlt x (by simp; exact Or.inr hx) | exact hlt x (by simp; exact Or.inr (Or.inl hx)) | exact hlt x (by simp; exact Or.inr (Or.inr hx)))) trodAll_mk0), rfl, bel.frame _, fun h => by cases h⟩

theorem over : Rows.tablesSayRow.holds Try.pinned (OpenSpec.ofChange Rows.tablesSaySpec) :=
  OpenClaim.holds_of_wide 3 Try.f3 rfl rfl rfl rfl rfl rfl rfl ⟨rfl, rfl, rfl, rfl, rfl⟩ rfl rfl rfl rfl rfl (by kernel_rfl) Try.func3 (by kernel_rfl)
    (of_decide_eq_true (by kernel_rfl)) (by unfold Func.isWrapper; first | (rw [if_pos (by decide +kernel)]; kernel_rfl) | (rw [if_neg (by decide +kernel)]; exact ⟨rfl, rfl⟩))
    (fun os started H enc _ => lifted os started H enc)

theorem proved : Rows.TablesSaySaid :=
  over
end Go.Proofs.Ytdmepbjcnnggaaa.lsay
