/-
  The statement TablesPrimes (P2.1): primes rise, and none is a multiple of one ahead of it; more of them begin with fewer. Conditions: none; for every input that the form speaks of.
-/
import Derived.Test.YtdmepbjcnnggaaaRows
import Derived.Test.YtdmepbjcnnggaaaAwake2
import Derived.Test.YtdmepbjcnnggaaaInts
import Derived.ProofKit
import Derived.OpenShut
import Derived.Carry
namespace Go.Proofs.Ytdmepbjcnnggaaa.lprimes
open Go.ChangeShapes Go.WideShapes Go.ChangeAt Go.RowKit
open Go.Proofs.Ytdmepbjcnnggaaa.primm Go.Proofs.Ytdmepbjcnnggaaa.arr Go.Proofs.Ytdmepbjcnnggaaa.primes
set_option linter.unusedVariables false
theorem own : ownKnob Try.prog.godebug = none := by kernel_rfl
theorem laidOut : laidOutB Try.prog = true := by kernel_rfl


theorem ph_rise : ∀ i, i < 100 → 0 < i → ph.getD (i - 1) 0 < ph.getD i 0 := by decide +kernel
set_option maxRecDepth 100000 in
theorem ph_apart : ∀ i, i < 100 → ∀ j, j < i → ph.getD i 0 % ph.getD j 0 ≠ 0 := by decide +kernel
theorem ph_at : ∀ i, i < 100 → 2 ≤ ph.getD i 0 ∧ ph.getD i 0 ≤ 541 := by decide +kernel
theorem rem_of (i : Int) (c : Nat) (hc : 0 < c) (hc2 : c < 1000) : ∃ r : Nat, r < c ∧ (IntKind.u64.wrap i) % (c : Int) = (r : Int) ∧ (IntKind.u64.wrap i).tmod (c : Int) = (r : Int) := by
  have h : 0 ≤ IntKind.u64.wrap i := by rw [IntKind.wrap_u64]; omega
  have h2 := Int.emod_nonneg (IntKind.u64.wrap i) (show (c : Int) ≠ 0 by omega)
  have h3 := Int.emod_lt_of_pos (IntKind.u64.wrap i) (show (0 : Int) < c by omega)
  refine ⟨((IntKind.u64.wrap i) % (c : Int)).toNat, by omega, by omega, ?_⟩
  rw [Int.tmod_eq_emod_of_nonneg h]; omega
theorem pr_len (n : Nat) (h : n ≤ 100) : (pr (n : Int)).length = n := by unfold pr; rw [Int.toNat_natCast, List.length_take, ph_length]; omega
theorem pr_get (n j : Nat) (h : j < n) : (pr (n : Int)).getD j 0 = ph.getD j 0 := by
  unfold pr
  rw [Int.toNat_natCast, List.getD_eq_getElem?_getD, List.getElem?_take_of_lt h, ← List.getD_eq_getElem?_getD]
/-- what a slice that holds the first n primes looks like -/
theorem pr_open {w wr : World} {n : Nat} {v : Value} (hn : n ≤ 100) (h : Holds w (pr (n : Int)) v wr) :
    (v = .slice none 0 0 ∧ n = 0) ∨ ∃ g cap, v = .slice (some ⟨g, 0, none⟩) n cap ∧ g < wr.heap.size ∧ n ≤ cap ∧ ∀ j, j < n → wr.cell? ⟨g, j, none⟩ = some (.int .i64 (ph.getD j 0 : Nat)) := by
  have hl := pr_len n hn
  rcases holds_open h with ⟨rfl, h1⟩ | ⟨g, cap, rfl, h1, h2, h3, h4⟩
  · refine .inl ⟨rfl, ?_⟩
    rw [h1] at hl; exact hl.symm
  · rw [hl] at h3 h4 ⊢
    refine .inr ⟨g, cap, rfl, h2, h3, fun j hj => ?_⟩
    rw [h4 j hj, pr_get n j hj]

set_option maxRecDepth 100000 in
set_option maxHeartbeats 2000000 in
theorem walk_of (a b : Int) (N M : Nat) (w : World) (hN : N < 60) (hM : M < 40) (eN : (IntKind.u64.wrap a) % 60 = (N : Int)) (eN2 : (IntKind.u64.wrap a).tmod 60 = (N : Int))
    (eM : (IntKind.u64.wrap b) % 40 = (M : Int)) (eM2 : (IntKind.u64.wrap b).tmod 40 = (M : Int)) :
    Calls Try.prog 7 #[.int .i64 a, .int .i64 b] w fun e w' => e = .returned (.bool true) ∧ Below w.heap.size w w' := by
  go_enter Try.func7, Try.ntmps7
  go_wp2_with fail
  refine (primes_any (N : Int) _).mono ?_
  rintro e w1 ⟨v1, rfl, hh1⟩
  go_wp2_with fail
  rw [show (N : Int) + (M : Int) = ((N + M : Nat) : Int) by omega]
  refine (primes_any ((N + M : Nat) : Int) _).mono ?_
  rintro e w2 ⟨v2, rfl, hh2⟩
  have o1 := pr_open (n := N) (by omega) hh1
  have o2 := pr_open (n := N + M) (by omega) hh2
  have HB2 : Away (Below w.heap.size w w2) := ⟨hh1.2.trans (hh2.2.mono hh1.2.size)⟩
  have Hb2 := Away.mk hh2.2
  clear hh1 hh2 eN eN2 eM eM2
  obtain ⟨L, hL⟩ : ∃ L, N + M = L := ⟨_, rfl⟩
  have HL := Away.mk hL
  rw [hL] at o2
  have hL1 : L < 100 := by omega
  have hL2 : N ≤ L := by omega
  have eNM : ((L : Int) != (N : Int) + (M : Int)) = false := bne_eq_false_iff_eq.2 (by omega)
  clear hL
  rcases o1 with ⟨rfl, rfl⟩ | ⟨g1, cap1, rfl, hg1, hcap1, hc1⟩
  · clear eNM
    obtain rfl : L = M := by have := HL.out; omega
    rcases o2 with ⟨rfl, rfl⟩ | ⟨g2, cap2, rfl, hg2, hcap2, hc2⟩
    · go_wp2_with fail
      refine (ints2.ints_nil none none 0 0 _).mono ?_
      rintro e w3 ⟨rfl, hb3⟩
      have HB3 : Away (Below w.heap.size w w3) := ⟨HB2.out.trans (hb3.mono HB2.out.size)⟩
      clear hb3
      go_wp2_with fail
      refine wp_loop_rounds 1 ?_
      rw [rounds_succ]
      go_wp2_with fail
      refine (awake.awake_any _).mono ?_
      rintro e w9 ⟨rfl, hb9⟩
      go_wp2_with fail
      go_ret
      exact ⟨rfl, HB3.out.trans (hb9.mono HB3.out.size)⟩
    · have HC := Away.mk hc2
      clear hc2
      go_wp2_with fail
      refine (ints2.ints_nil none _ 0 cap2 _).mono ?_
      rintro e w3 ⟨rfl, hb3⟩
      have HB3 : Away (Below w.heap.size w w3) := ⟨HB2.out.trans (hb3.mono HB2.out.size)⟩
      have HC2 : Away (∀ j, j < L → w3.cell? ⟨g2, j, none⟩ = some (.int .i64 (ph.getD j 0 : Nat))) := ⟨fun j hj => (hb3.cell (p := ⟨g2, j, none⟩) hg2).trans (HC.out j hj)⟩
      clear hb3 HC
      go_wp2_with fail
      go_loop [47] (fun i => ∃ k : Nat, k ≤ L ∧ i = .int .i64 k) (fun i => L - (intOf i).toNat)
      case atStart => exact ⟨0, Nat.zero_le _, rfl⟩
      case round =>
        obtain ⟨k, hk, rfl⟩ := hrel
        by_cases hlt : k < L
        · have hpk := HC2.out k hlt
          have hpb := ph_at k (by omega)
          have Hap := Away.mk (ph_apart k (by omega))
          have Hri := Away.mk (ph_rise k (by omega))
          obtain ⟨p, hp⟩ : ∃ p, ph.getD k 0 = p := ⟨_, rfl⟩
          rw [hp] at hpk hpb Hap Hri
          clear hp
          by_cases h0 : k = 0
          · subst h0
            clear Hap Hri
            go_wp2_with fail
            refine wp_loop_rounds 1 ?_
            rw [rounds_succ]
            go_wp2_with fail
            go_round
            case rel => exact ⟨1, by omega, by go_num⟩
            case measure => simp [intOf]; omega
          · have hp1 := HC2.out (k - 1) (by omega)
            have hr := Hri.out (by omega)
            obtain ⟨p1, hpp⟩ : ∃ p, ph.getD (k - 1) 0 = p := ⟨_, rfl⟩
            rw [hpp] at hp1 hr
            have e1 : ((k : Int) - 1).toNat = k - 1 := by omega
            have hk0 : 0 < k := by omega
            have hge : decide ((p : Int) ≤ (p1 : Int)) = false := by simp; omega
            clear hpp Hri h0
            go_wp2_with fail
            go_loop [71] (fun i => ∃ j : Nat, j ≤ k ∧ i = .int .i64 j) (fun i => k - (intOf i).toNat)
            case atStart => exact ⟨0, Nat.zero_le _, rfl⟩
            case round =>
              obtain ⟨j, hj, rfl⟩ := hrel
              by_cases hjl : j < k
              · have hq := HC2.out j (by omega)
                have hqb := ph_at j (by omega)
                have hne := Hap.out j hjl
                obtain ⟨q, hqq⟩ : ∃ q, ph.getD j 0 = q := ⟨_, rfl⟩
                rw [hqq] at hq hqb hne
                have hb1 : ((p : Int) % (q : Int) == 0) = false := beq_eq_false_iff_ne.2 (by exact_mod_cast hne)
                clear hqq hne
                go_wp2_with fail
                go_round
                case rel => exact ⟨j + 1, by omega, by go_num⟩
                case measure => simp [intOf]; omega
              · obtain rfl : j = k := by omega
                go_wp2_with fail
                go_round
                case rel => exact ⟨j + 1, by omega, by go_num⟩
                case measure => simp [intOf]; omega
        · obtain rfl : k = L := by omega
          go_wp2_with fail
          refine (awake.awake_any _).mono ?_
          rintro e w9 ⟨rfl, hb9⟩
          go_wp2_with fail
          go_ret
          exact ⟨rfl, HB3.out.trans (hb9.mono HB3.out.size)⟩
  · have HC1 : Away (∀ j, j < N → w2.cell? ⟨g1, j, none⟩ = some (.int .i64 (ph.getD j 0 : Nat))) := ⟨fun j hj => (Hb2.out.cell (p := ⟨g1, j, none⟩) hg1).trans (hc1 j hj)⟩
    clear hc1
    rcases o2 with ⟨rfl, rfl⟩ | ⟨g2, cap2, rfl, hg2, hcap2, hc2⟩
    · clear eNM
      obtain rfl : N = 0 := by omega
      obtain rfl : M = 0 := by have := HL.out; omega
      go_wp2_with fail
      refine (ints2.ints_nil _ none cap1 0 _).mono ?_
      rintro e w3 ⟨rfl, hb3⟩
      have HB3 : Away (Below w.heap.size w w3) := ⟨HB2.out.trans (hb3.mono HB2.out.size)⟩
      clear hb3
      go_wp2_with fail
      refine wp_loop_rounds 1 ?_
      rw [rounds_succ]
      go_wp2_with fail
      refine (awake.awake_any _).mono ?_
      rintro e w9 ⟨rfl, hb9⟩
      go_wp2_with fail
      go_ret
      exact ⟨rfl, HB3.out.trans (hb9.mono HB3.out.size)⟩
    · have HC := Away.mk hc2
      clear hc2
      go_wp2_with fail
      refine (ints2.ints_some ph N g1 g2 cap1 cap2 _ (by omega) HC1.out (fun j hj => HC.out j (by omega))).mono ?_
      rintro e w3 ⟨rfl, hb3⟩
      have HB3 : Away (Below w.heap.size w w3) := ⟨HB2.out.trans (hb3.mono HB2.out.size)⟩
      have HC2 : Away (∀ j, j < L → w3.cell? ⟨g2, j, none⟩ = some (.int .i64 (ph.getD j 0 : Nat))) := ⟨fun j hj => (hb3.cell (p := ⟨g2, j, none⟩) hg2).trans (HC.out j hj)⟩
      clear hb3 HC HC1
      go_wp2_with fail
      go_loop [47] (fun i => ∃ k : Nat, k ≤ L ∧ i = .int .i64 k) (fun i => L - (intOf i).toNat)
      case atStart => exact ⟨0, Nat.zero_le _, rfl⟩
      case round =>
        obtain ⟨k, hk, rfl⟩ := hrel
        by_cases hlt : k < L
        · have hpk := HC2.out k hlt
          have hpb := ph_at k (by omega)
          have Hap := Away.mk (ph_apart k (by omega))
          have Hri := Away.mk (ph_rise k (by omega))
          obtain ⟨p, hp⟩ : ∃ p, ph.getD k 0 = p := ⟨_, rfl⟩
          rw [hp] at hpk hpb Hap Hri
          clear hp
          by_cases h0 : k = 0
          · subst h0
            clear Hap Hri
            go_wp2_with fail
            refine wp_loop_rounds 1 ?_
            rw [rounds_succ]
            go_wp2_with fail
            go_round
            case rel => exact ⟨1, by omega, by go_num⟩
            case measure => simp [intOf]; omega
          · have hp1 := HC2.out (k - 1) (by omega)
            have hr := Hri.out (by omega)
            obtain ⟨p1, hpp⟩ : ∃ p, ph.getD (k - 1) 0 = p := ⟨_, rfl⟩
            rw [hpp] at hp1 hr
            have e1 : ((k : Int) - 1).toNat = k - 1 := by omega
            have hk0 : 0 < k := by omega
            have hge : decide ((p : Int) ≤ (p1 : Int)) = false := by simp; omega
            clear hpp Hri h0
            go_wp2_with fail
            go_loop [71] (fun i => ∃ j : Nat, j ≤ k ∧ i = .int .i64 j) (fun i => k - (intOf i).toNat)
            case atStart => exact ⟨0, Nat.zero_le _, rfl⟩
            case round =>
              obtain ⟨j, hj, rfl⟩ := hrel
              by_cases hjl : j < k
              · have hq := HC2.out j (by omega)
                have hqb := ph_at j (by omega)
                have hne := Hap.out j hjl
                obtain ⟨q, hqq⟩ : ∃ q, ph.getD j 0 = q := ⟨_, rfl⟩
                rw [hqq] at hq hqb hne
                have hb1 : ((p : Int) % (q : Int) == 0) = false := beq_eq_false_iff_ne.2 (by exact_mod_cast hne)
                clear hqq hne
                go_wp2_with fail
                go_round
                case rel => exact ⟨j + 1, by omega, by go_num⟩
                case measure => simp [intOf]; omega
              · obtain rfl : j = k := by omega
                go_wp2_with fail
                go_round
                case rel => exact ⟨j + 1, by omega, by go_num⟩
                case measure => simp [intOf]; omega
        · obtain rfl : k = L := by omega
          go_wp2_with fail
          refine (awake.awake_any _).mono ?_
          rintro e w9 ⟨rfl, hb9⟩
          go_wp2_with fail
          go_ret
          exact ⟨rfl, HB3.out.trans (hb9.mono HB3.out.size)⟩
theorem walk (a b : Int) (w : World) : Calls Try.prog 7 #[.int .i64 a, .int .i64 b] w fun e w' => e = .returned (.bool true) ∧ Below w.heap.size w w' := by
  obtain ⟨r, hr, e1, e2⟩ := rem_of a 60 (by decide) (by decide)
  obtain ⟨s, hs, e3, e4⟩ := rem_of b 40 (by decide) (by decide)
  exact walk_of a b r s w hr hs e1 e2 e3 e4
/-! ### The row -/
set_option maxRecDepth 100000 in
theorem lifted (os : Os) (started : os.Started) (H : Type) (enc : TypeId × Value → H) :
    ReturnsInHanded {} Try.checked os 7 .any (Rows.tablesPrimesSpec.pre6 enc Try.prog Try.f7 Rows.tablesPrimesRow.domain false) (Rows.tablesPrimesSpec.post enc Try.prog Try.f7 false true false false) := by
  refine returnsInHanded_of_change (C := Try.checked) own started (by kernel_rfl) Try.func7
    (ChangeSpec.witness6 (enc := enc) (C := Try.checked) false ⟨#[], #[.int .i64 0, .int .i64 0], []⟩ 8 (by kernel_rfl) (by kernel_rfl) (by kernel_rfl) (by kernel_rfl)) ?_
  intro W base args ds gs before hval0 hW hcnd _
  have hval : ∀ (j : Nat) t v, Try.f7.params[j]? = some t → args[j]? = some v → Value.okWide Try.prog W .any base t v := hval0
  have hW' := hW
  have hlt := hW.lt
  obtain ⟨p, q, hA0, hV, rfl, hfz, hnd⟩ := hW
  have hA : DataW.TrodAll enc Try.prog W 0 (fun _ => true) true Try.f7.params.toList args.toList ds p := hA0
  rw [Try.params7] at hA hval
  obtain ⟨v0, vs0, d0, ds0, p0, q0, hargs, rfl, rfl, h0, r0⟩ := trodAll_cons hA
  obtain ⟨v1, vs1, d1, ds1, p1, q1, rfl, rfl, rfl, h1, r1⟩ := trodAll_cons r0
  obtain ⟨rfl, rfl, rfl⟩ := trodAll_nil r1
  obtain rfl : args = #[v0, v1] := by cases args; simp_all
  obtain ⟨rfl, rfl⟩ := trodVars_none hV
  obtain ⟨a0, rfl, rfl, rfl, w0⟩ := open_int Try.underlying3 (hval 0 3 v0 rfl rfl) h0
  obtain ⟨a1, rfl, rfl, rfl, w1⟩ := open_int Try.underlying3 (hval 1 3 v1 rfl rfl) h1
  clear hA0 hval0
  refine (walk a0 a1 W).mono fun e W' ⟨he, bel⟩ => ?_
  subst he
  exact ⟨_, rfl, _, _, _, [], _, [], hW', trodAll_mk1 (shut_bool Try.underlying4 _), (trodAll_cons_mk (Below.trod laidOut (by kernel_rfl) (of_decide_eq_true (by kernel_rfl)) h0 bel (fun x hx => by first | exact absurd hx (by simp) | exact hlt x (by simpa using hx) | exact hlt x (by simp; exact Or.inl hx) | exact hlt x (by simp; exact Or.inr hx) | exact hlt x (by simp; exact Or.inr (Or.inl hx)) | exact hlt x (by simp; exact Or.inr (Or.inr hx)))) (trodAll_cons_mk (Below.trod laidOut (by kernel_rfl) (of_decide_eq_true (by kernel_rfl)) h1 bel (fun x hx => by first | exact absurd hx (by simp) | exact hlt x (by simpa using hx) | exact hlt x (by simp; exact Or.inl hx) | exact hlt x (by simp; exact Or.inr hx) | exact hlt x (by simp; exact Or.inr (Or.inl hx)) | exact hlt x (by simp; exact Or.inr (Or.inr hx)))) trodAll_mk0)), rfl, bel.frame _, fun h => by cases h⟩

theorem over : Rows.tablesPrimesRow.holds Try.pinned (OpenSpec.ofChange Rows.tablesPrimesSpec) :=
  OpenClaim.holds_of_wide 7 Try.f7 rfl rfl rfl rfl rfl rfl rfl ⟨rfl, rfl, rfl, rfl, rfl⟩ rfl rfl rfl rfl rfl (by kernel_rfl) Try.func7 (by kernel_rfl)
    (of_decide_eq_true (by kernel_rfl)) (by unfold Func.isWrapper; first | (rw [if_pos (by decide +kernel)]; kernel_rfl) | (rw [if_neg (by decide +kernel)]; exact ⟨rfl, rfl⟩))
    (fun os started H enc _ => lifted os started H enc)

theorem proved : Rows.TablesPrimesSaid :=
  over
end Go.Proofs.Ytdmepbjcnnggaaa.lprimes
