/-
  sigillaw10.BitsLong returns true for every number: bits.Long is the number of bits. Conditions: none.
-/
import Derived.Test.YtdlolhilmhlklaaRows
import Derived.Test.YtdlolhilmhlklaaAwake10
import Derived.ProofKit
import Derived.OpenShut
import Derived.Carry
namespace Go.Proofs.Ytdlolhilmhlklaa.l10l
open Go.ChangeShapes Go.WideShapes Go.ChangeAt Go.RowKit
open Go.Proofs.Ytdlolhilmhlklaa.arr Go.Proofs.Ytdlolhilmhlklaa.mem Go.Proofs.Ytdlolhilmhlklaa.rbita
set_option linter.unusedVariables false
theorem own : ownKnob Try.prog.godebug = none := by kernel_rfl
theorem laidOut : laidOutB Try.prog = true := by kernel_rfl

set_option maxRecDepth 100000 in
set_option maxHeartbeats 4000000 in
theorem walk (n : Int) (w : World) (hn : (Lit.int .i64 n).wf = true) : Calls Try.prog 5 #[.int .i64 n] w fun e w' => e = .returned (.bool true) ∧ Below w.heap.size w w' := by
  have hr0 : IntKind.i64.min ≤ n ∧ n ≤ 9223372036854775807 := by simpa [Lit.wf] using hn
  have hr : n ≤ 9223372036854775807 := hr0.2
  clear hr0
  have HL := Away.mk (fun w1 => plong.long_any n (by omega) w1)
  have HA := Away.mk (fun w1 => awake10.awake_any w1)
  by_cases h1 : n < 1
  · have e : lb n.toNat = 0 := by rw [show n.toNat = 0 by omega]; rfl
    rw [e] at HL
    clear e
    go_enter Try.func5, Try.ntmps5
    go_wp2_with fail
    refine (HL.out _).mono ?_
    rintro e w1 ⟨rfl, rfl⟩
    go_wp2_with fail
    refine (HA.out _).mono ?_
    rintro e w2 ⟨rfl, hb⟩
    go_wp2_with fail
    go_ret
    exact ⟨rfl, hb⟩
  · obtain ⟨hs1, hs2, -⟩ := lbf_spec 64 n.toNat (by omega)
    obtain ⟨hp1, hp2⟩ := hs2 (by omega)
    obtain ⟨k, hk⟩ : ∃ k, lb n.toNat = k := ⟨_, rfl⟩
    have hk' : lbf 64 n.toNat = k := hk
    rw [hk'] at hs1 hp1 hp2
    rw [hk] at HL
    have hk63 : k ≤ 63 := by
      have e : lbf 64 n.toNat = lbf 63 n.toNat := lbf_more 63 64 _ (by omega) (by decide)
      rw [← hk', e]
      exact (lbf_spec 63 _ (by omega)).2.2
    obtain ⟨j, hj⟩ : ∃ j, k - 1 = j := ⟨_, rfl⟩
    have hkj : k = j + 1 := by omega
    subst hkj
    rw [hj] at hp2
    have hd : n.toNat / 2 ^ j = 1 := by
      have h2 : n.toNat < 2 * 2 ^ j := by rw [Nat.pow_succ] at hs1; omega
      have h3 : 1 ≤ n.toNat / 2 ^ j := (Nat.le_div_iff_mul_le (Nat.two_pow_pos _)).2 (by omega)
      have h4 : n.toNat / 2 ^ j < 2 := (Nat.div_lt_iff_lt_mul (Nat.two_pow_pos _)).2 h2
      omega
    have hdz : n / 2 ^ j = 1 := by
      have e : n = ((n.toNat : Nat) : Int) := by omega
      rw [e]
      have : ((n.toNat : Nat) : Int) / 2 ^ j = ((n.toNat / 2 ^ j : Nat) : Int) := by simp
      rw [this, hd]
      rfl
    have fj : IntKind.i64.wrap (((j + 1 : Nat) : Int) - 1) = (j : Int) := by rw [IntKind.wrap_i64]; omega
    have fju : IntKind.u64.wrap (j : Int) = (j : Int) := by rw [IntKind.wrap_u64]; omega
    have hj64 : j < 64 := by omega
    have hj63 : j ≤ 63 := by omega
    have fk1 : (1 : Int) ≤ ((j + 1 : Nat) : Int) := by omega
    have fk2 : ((j + 1 : Nat) : Int) ≤ 63 := by omega
    clear hd hs1 hs2 hp1 hp2 hk hk' hj
    go_enter Try.func5, Try.ntmps5
    go_wp2_with fail
    refine (HL.out _).mono ?_
    rintro e w1 ⟨rfl, rfl⟩
    go_wp2_with fail
    refine (HA.out _).mono ?_
    rintro e w2 ⟨rfl, hb⟩
    go_wp2_with fail
    go_ret
    exact ⟨rfl, hb⟩
/-! ### The row -/
set_option maxRecDepth 100000 in
theorem lifted (os : Os) (started : os.Started) (H : Type) (enc : TypeId × Value → H) :
    ReturnsInHanded {} Try.checked os 5 .any (Rows.bitsLongSpec.pre6 enc Try.prog Try.f5 Rows.bitsLongRow.domain false) (Rows.bitsLongSpec.post enc Try.prog Try.f5 false true false false) := by
  refine returnsInHanded_of_change (C := Try.checked) own started (by kernel_rfl) Try.func5
    (ChangeSpec.witness6 (enc := enc) (C := Try.checked) false ⟨#[], #[.int .i64 0], []⟩ 8 (by kernel_rfl) (by kernel_rfl) (by kernel_rfl) (by kernel_rfl)) ?_
  intro W base args ds gs before hval0 hW hcnd _
  have hval : ∀ (j : Nat) t v, Try.f5.params[j]? = some t → args[j]? = some v → Value.okWide Try.prog W .any base t v := hval0
  have hW' := hW
  have hlt := hW.lt
  obtain ⟨p, q, hA0, hV, rfl, hfz, hnd⟩ := hW
  have hA : DataW.TrodAll enc Try.prog W 0 (fun _ => true) true Try.f5.params.toList args.toList ds p := hA0
  rw [Try.params5] at hA hval
  obtain ⟨v0, vs0, d0, ds0, p0, q0, hargs, rfl, rfl, h0, r0⟩ := trodAll_cons hA
  obtain ⟨rfl, rfl, rfl⟩ := trodAll_nil r0
  obtain rfl : args = #[v0] := by cases args; simp_all
  obtain ⟨rfl, rfl⟩ := trodVars_none hV
  obtain ⟨a0, rfl, rfl, rfl, w0⟩ := open_int Try.underlying3 (hval 0 3 v0 rfl rfl) h0
  clear hA0 hval0
  refine (walk a0 W w0).mono fun e W' ⟨he, bel⟩ => ?_
  subst he
  exact ⟨_, rfl, _, _, _, [], _, [], hW', trodAll_mk1 (shut_bool Try.underlying4 _), (trodAll_cons_mk (Below.trod laidOut (by kernel_rfl) (of_decide_eq_true (by kernel_rfl)) h0 bel (fun x hx => by first | exact absurd hx (by simp) | exact hlt x (by simpa using hx) | exact hlt x (by simp; exact Or.inl hx) | exact hlt x (by simp; exact Or.inr hx) | exact hlt x (by simp; exact Or.inr (Or.inl hx)) | exact hlt x (by simp; exact Or.inr (Or.inr hx)))) trodAll_mk0), rfl, bel.frame _, fun h => by cases h⟩

theorem over : Rows.bitsLongRow.holds Try.pinned (OpenSpec.ofChange Rows.bitsLongSpec) :=
  OpenClaim.holds_of_wide 5 Try.f5 rfl rfl rfl rfl rfl rfl rfl ⟨rfl, rfl, rfl, rfl, rfl⟩ rfl rfl rfl rfl rfl (by kernel_rfl) Try.func5 (by kernel_rfl)
    (of_decide_eq_true (by kernel_rfl)) (by unfold Func.isWrapper; first | (rw [if_pos (by decide +kernel)]; kernel_rfl) | (rw [if_neg (by decide +kernel)]; exact ⟨rfl, rfl⟩))
    (fun os started H enc _ => lifted os started H enc)

theorem proved : Rows.BitsLongSaid :=
  over
end Go.Proofs.Ytdlolhilmhlklaa.l10l
