/-
  The statement TablesRoots (P2.7): each of the ring's roots is 1 to the power 512; the odd powers of 1753 are -1 to the power 256; no two are alike. Conditions: none; for every input that the form speaks of.
-/
import Derived.Test.YtdmepbjcnnggaaaRows
import Derived.Test.YtdmepbjcnnggaaaAwake2
import Derived.ProofKit
import Derived.OpenShut
import Derived.Carry
namespace Go.Proofs.Ytdmepbjcnnggaaa.lroots
open Go.ChangeShapes Go.WideShapes Go.ChangeAt Go.RowKit
open Go.Proofs.Ytdmepbjcnnggaaa.tabm Go.Proofs.Ytdmepbjcnnggaaa.tabt Go.Proofs.Ytdmepbjcnnggaaa.tabv Go.Proofs.Ytdmepbjcnnggaaa.built Go.Proofs.Ytdmepbjcnnggaaa.arr
open Go.Proofs.Ytdmepbjcnnggaaa.power (power_neg power_nn)
open Go.Proofs.Ytdmepbjcnnggaaa.make (make_any)
set_option linter.unusedVariables false
theorem own : ownKnob Try.prog.godebug = none := by kernel_rfl
theorem laidOut : laidOutB Try.prog = true := by kernel_rfl


/-! ### Plain facts on the roots -/
def zlit : List Nat := [1, 4808194, 3765607, 3761513, 5178923, 5496691, 5234739, 5178987, 7778734, 3542485, 2682288, 2129892, 3764867, 7375178, 557458, 7159240, 5010068, 4317364, 2663378, 6705802, 4855975, 7946292, 676590, 7044481, 5152541, 1714295, 2453983, 1460718, 7737789, 4795319, 2815639, 2283733, 3602218, 3182878, 2740543, 4793971, 5269599, 2101410, 3704823, 1159875, 394148, 928749, 1095468, 4874037, 2071829, 4361428, 3241972, 2156050, 3415069, 1759347, 7562881, 4805951, 3756790, 6444618, 6663429, 4430364, 5483103, 3192354, 556856, 3870317, 2917338, 1853806, 3345963, 1858416, 3073009, 1277625, 5744944, 3852015, 4183372, 5157610, 5258977, 8106357, 2508980, 2028118, 1937570, 4564692, 2811291, 5396636, 7270901, 4158088, 1528066, 482649, 1148858, 5418153, 7814814, 169688, 2462444, 5046034, 4213992, 4892034, 1987814, 5183169, 1736313, 235407, 5130263, 3258457, 5801164, 1787943, 5989328, 6125690, 3482206, 4197502, 7080401, 6018354, 7062739, 2461387, 3035980, 621164, 3901472, 7153756, 2925816, 3374250, 1356448, 5604662, 2683270, 5601629, 4912752, 2312838, 7727142, 7921254, 348812, 8052569, 1011223, 6026202, 4561790, 6458164, 6143691, 1744507, 1753, 6444997, 5720892, 6924527, 2660408, 6600190, 8321269, 2772600, 1182243, 87208, 636927, 4415111, 4423672, 6084020, 5095502, 4663471, 8352605, 822541, 1009365, 5926272, 6400920, 1596822, 4423473, 4620952, 6695264, 4969849, 2678278, 4611469, 4829411, 635956, 8129971, 5925040, 4234153, 6607829, 2192938, 6653329, 2387513, 4768667, 8111961, 5199961, 3747250, 2296099, 1239911, 4541938, 3195676, 2642980, 1254190, 8368000, 2998219, 141835, 8291116, 2513018, 7025525, 613238, 7070156, 6161950, 7921677, 6458423, 4040196, 4908348, 2039144, 6500539, 7561656, 6201452, 6757063, 2105286, 6006015, 6346610, 586241, 7200804, 527981, 5637006, 6903432, 1994046, 2491325, 6987258, 507927, 7192532, 7655613, 6545891, 5346675, 8041997, 2647994, 3009748, 5767564, 4148469, 749577, 4357667, 3980599, 2569011, 6764887, 1723229, 1665318, 2028038, 1163598, 5011144, 3994671, 8368538, 7009900, 3020393, 3363542, 214880, 545376, 7609976, 3105558, 7277073, 508145, 7826699, 860144, 3430436, 140244, 6866265, 6195333, 3123762, 2358373, 6187330, 5365997, 6663603, 2926054, 7987710, 8077412, 3531229, 4405932, 4606686, 1900052, 7598542, 1054478, 7648983]
set_option maxRecDepth 100000 in
theorem zlit_is : (List.range 256).map zt = zlit := by decide +kernel
set_option maxRecDepth 100000 in
theorem zlit_apart : zlit.Nodup := by decide +kernel
set_option maxRecDepth 100000 in
theorem zlit_powers : (List.range 256).all (fun r => pw (zlit.getD r 0) 512 == 1 && pw (zlit.getD r 0) 256 == (if 128 ≤ r then 8380416 else 1)) = true := by decide +kernel
theorem zt_lit (r : Nat) (h : r < 256) : zt r = zlit.getD r 0 := by
  rw [← zlit_is, List.getD_eq_getElem?_getD, List.getElem?_map, List.getElem?_range h]
  rfl
theorem zt_512 (r : Nat) (h : r < 256) : pw (zt r) 512 = 1 := by
  have := List.all_eq_true.1 zlit_powers r (by simpa using h)
  simp only [Bool.and_eq_true, beq_iff_eq] at this
  rw [zt_lit r h]; exact this.1
theorem zt_256 (r : Nat) (h : r < 256) : pw (zt r) 256 = (if 128 ≤ r then 8380416 else 1) := by
  have := List.all_eq_true.1 zlit_powers r (by simpa using h)
  simp only [Bool.and_eq_true, beq_iff_eq] at this
  rw [zt_lit r h]; exact this.2
theorem zlit_length : zlit.length = 256 := by rw [← zlit_is]; simp
theorem zt_inj (r s : Nat) (hr : r < 256) (hs : s < 256) (h : zt r = zt s) : r = s := by
  rw [zt_lit r hr, zt_lit s hs, List.getD_eq_getElem?_getD, List.getD_eq_getElem?_getD, List.getElem?_eq_getElem (by rw [zlit_length]; exact hr), List.getElem?_eq_getElem (by rw [zlit_length]; exact hs)] at h
  simp only [Option.getD_some] at h
  have hp := List.pairwise_iff_getElem.1 zlit_apart
  rcases Nat.lt_trichotomy r s with h1 | h1 | h1
  · exact absurd h (hp r s _ _ h1)
  · exact h1
  · exact absurd h.symm (hp s r _ _ h1)
theorem zt_lt (r : Nat) : zt r < 8380417 := pw_lt _ _

theorem rem_of (i : Int) : ∃ r : Nat, r < 256 ∧ (IntKind.u64.wrap i) % 256 = (r : Int) ∧ (IntKind.u64.wrap i).tmod 256 = (r : Int) := by
  have h : 0 ≤ IntKind.u64.wrap i := by rw [IntKind.wrap_u64]; omega
  refine ⟨((IntKind.u64.wrap i) % 256).toNat, by omega, by omega, ?_⟩
  rw [Int.tmod_eq_emod_of_nonneg h]; omega

set_option maxRecDepth 100000 in
set_option maxHeartbeats 2000000 in
theorem walk_of (i k : Int) (r s : Nat) (w : World) (hr : r < 256) (hs : s < 256) (er : (IntKind.u64.wrap i) % 256 = (r : Int)) (er2 : (IntKind.u64.wrap i).tmod 256 = (r : Int))
    (es : (IntKind.u64.wrap k) % 256 = (s : Int)) (es2 : (IntKind.u64.wrap k).tmod 256 = (s : Int)) :
    Calls Try.prog 5 #[.int .i64 i, .int .i64 k] w fun e w' => e = .returned (.bool true) ∧ Below w.heap.size w w' := by
  obtain ⟨hz, hsize⟩ := zero_of_info infoT
  obtain ⟨Z, HZ⟩ := ex_eq TZ
  rw [HZ.out] at hz
  have HZs : Away (Z.size = 465) := ⟨by rw [← HZ.out]; exact tz_size⟩
  have Hsize := Away.mk hsize
  clear hsize
  obtain ⟨T, HT⟩ := ex_eq TA
  have HTs : Away (T.size = 465) := ⟨by rw [← HT.out]; exact ta_size⟩
  have HTo : Away (T.all (·.oneCell') = true) := ⟨by rw [← HT.out]; exact ta_one⟩
  have HTg : Away (∀ i, i < 465 → T[i]? = some (tv i)) := ⟨fun i hi => by rw [← HT.out]; exact ta_get i hi⟩
  have H512 : Away (((pw (zt r) 512 : Nat) : Int) = 1) := ⟨by rw [zt_512 r hr]; rfl⟩
  have H256 := Away.mk (zt_256 r hr)
  have Hinj := Away.mk (zt_inj r s hr hs)
  obtain ⟨a, Ha⟩ := ex_eq (zt r)
  obtain ⟨b, Hb⟩ := ex_eq (zt s)
  have Hla : Away (a < 8380417) := ⟨by rw [← Ha.out]; exact zt_lt r⟩
  have Htr : Away (tv (209 + r) = .int .i64 (a : Int)) := ⟨by rw [tv_zetas r hr, zl_get 256 r hr (by decide), Ha.out]⟩
  have Hts : Away (tv (209 + s) = .int .i64 (b : Int)) := ⟨by rw [tv_zetas s hs, zl_get 256 s hs (by decide), Hb.out]⟩
  have Hab : Away (((a : Int) == (b : Int)) = decide (r = s)) := ⟨by
    rw [← Ha.out, ← Hb.out]
    by_cases h : r = s
    · subst h; simp
    · rw [decide_eq_false h, beq_eq_false_iff_ne]
      intro h2
      exact h (Hinj.out (by omega))⟩
  rw [Ha.out] at H512 H256
  go_enter Try.func5, Try.ntmps5
  go_wp2_with fail
  refine (make_any _).mono ?_
  rintro e w1 ⟨rfl, hb1⟩
  rw [HT.out]
  have hg := heap_at w1 (.cells T 39) _ rfl
  have c1 := cell_at hg ((HTg.out (209 + r) (by omega)).trans (congrArg some Htr.out))
  have c2 := cell_at hg ((HTg.out (209 + s) (by omega)).trans (congrArg some Hts.out))
  have Hb1 := Away.mk hb1
  clear hg hb1 HTg
  go_wp2_with (refine wpList_store_new rfl 39 _ _ rfl _ rfl rfl (by rw [HTs.out]; exact Hsize.out) (by rw [HTs.out]; exact HZs.out) HTo.out rfl ?_)
  go_quiet (fail)
  go_wp2_with fail
  refine (power_nn a 256 _ (by have := Hla.out; omega) (by decide)).mono ?_
  rintro e w2 ⟨rfl, rfl⟩
  by_cases h128 : 128 ≤ r
  · have Hh : Away (((pw a 256 : Nat) : Int) = 8380416) := ⟨by rw [H256.out, if_pos h128]; rfl⟩
    rw [Hh.out]
    go_wp2_with fail
    refine (power_nn a 512 _ (by have := Hla.out; omega) (by decide)).mono ?_
    rintro e w2 ⟨rfl, rfl⟩
    rw [H512.out]
    by_cases hrs : r = s
    · have hab : ((a : Int) == (b : Int)) = true := by rw [Hab.out]; exact decide_eq_true hrs
      have hrs2 : ((r : Int) == (s : Int)) = true := beq_iff_eq.2 (by omega)
      clear hrs
      go_wp2_with fail
      refine (awake.awake_any _).mono ?_
      rintro e w3 ⟨rfl, hb3⟩
      go_wp2_with fail
      go_ret
      exact ⟨rfl, (below_drewN (Hb1.out.alloc Hb1.out.size _) _).trans (hb3.mono (by have := Hb1.out.size; simp; omega))⟩
    · have hab : ((a : Int) == (b : Int)) = false := by rw [Hab.out]; exact decide_eq_false hrs
      have hrs2 : ((r : Int) == (s : Int)) = false := beq_eq_false_iff_ne.2 (by omega)
      clear hrs
      go_wp2_with fail
      refine (awake.awake_any _).mono ?_
      rintro e w3 ⟨rfl, hb3⟩
      go_wp2_with fail
      go_ret
      exact ⟨rfl, (below_drewN (Hb1.out.alloc Hb1.out.size _) _).trans (hb3.mono (by have := Hb1.out.size; simp; omega))⟩
  · have d128 : decide (128 ≤ (r : Int)) = false := by simp; omega
    have Hh : Away (((pw a 256 : Nat) : Int) = 1) := ⟨by rw [H256.out, if_neg h128]; rfl⟩
    rw [Hh.out]
    go_wp2_with fail
    refine (power_nn a 512 _ (by have := Hla.out; omega) (by decide)).mono ?_
    rintro e w2 ⟨rfl, rfl⟩
    rw [H512.out]
    by_cases hrs : r = s
    · have hab : ((a : Int) == (b : Int)) = true := by rw [Hab.out]; exact decide_eq_true hrs
      have hrs2 : ((r : Int) == (s : Int)) = true := beq_iff_eq.2 (by omega)
      clear hrs
      go_wp2_with fail
      refine (awake.awake_any _).mono ?_
      rintro e w3 ⟨rfl, hb3⟩
      go_wp2_with fail
      go_ret
      exact ⟨rfl, (below_drewN (Hb1.out.alloc Hb1.out.size _) _).trans (hb3.mono (by have := Hb1.out.size; simp; omega))⟩
    · have hab : ((a : Int) == (b : Int)) = false := by rw [Hab.out]; exact decide_eq_false hrs
      have hrs2 : ((r : Int) == (s : Int)) = false := beq_eq_false_iff_ne.2 (by omega)
      clear hrs
      go_wp2_with fail
      refine (awake.awake_any _).mono ?_
      rintro e w3 ⟨rfl, hb3⟩
      go_wp2_with fail
      go_ret
      exact ⟨rfl, (below_drewN (Hb1.out.alloc Hb1.out.size _) _).trans (hb3.mono (by have := Hb1.out.size; simp; omega))⟩

theorem walk (i k : Int) (w : World) : Calls Try.prog 5 #[.int .i64 i, .int .i64 k] w fun e w' => e = .returned (.bool true) ∧ Below w.heap.size w w' := by
  obtain ⟨r, hr, e1, e2⟩ := rem_of i
  obtain ⟨s, hs, e3, e4⟩ := rem_of k
  exact walk_of i k r s w hr hs e1 e2 e3 e4
/-! ### The row -/
set_option maxRecDepth 100000 in
theorem lifted (os : Os) (started : os.Started) (H : Type) (enc : TypeId × Value → H) :
    ReturnsInHanded {} Try.checked os 5 .any (Rows.tablesRootsSpec.pre6 enc Try.prog Try.f5 Rows.tablesRootsRow.domain false) (Rows.tablesRootsSpec.post enc Try.prog Try.f5 false true false false) := by
  refine returnsInHanded_of_change (C := Try.checked) own started (by kernel_rfl) Try.func5
    (ChangeSpec.witness6 (enc := enc) (C := Try.checked) false ⟨#[], #[.int .i64 0, .int .i64 0], []⟩ 8 (by kernel_rfl) (by kernel_rfl) (by kernel_rfl) (by kernel_rfl)) ?_
  intro W base args ds gs before hval0 hW hcnd _
  have hval : ∀ (j : Nat) t v, Try.f5.params[j]? = some t → args[j]? = some v → Value.okWide Try.prog W .any base t v := hval0
  have hW' := hW
  have hlt := hW.lt
  obtain ⟨p, q, hA0, hV, rfl, hfz, hnd⟩ := hW
  have hA : DataW.TrodAll enc Try.prog W 0 (fun _ => true) true Try.f5.params.toList args.toList ds p := hA0
  rw [Try.params5] at hA hval
  obtain ⟨v0, vs0, d0, ds0, p0, q0, hargs, rfl, rfl, h0, r0⟩ := trodAll_cons hA
  obtain ⟨v1, vs1, d1, ds1, p1, q1, rfl, rfl, rfl, h1, r1⟩ := trodAll_cons r0
  obtain ⟨rfl, rfl, rfl⟩ := trodAll_nil r1
  obtain rfl : args = #[v0, v1] := by cases args; simp_all
  obtain ⟨rfl, rfl⟩ := trodVars_none hV
  obtain ⟨a0, rfl, rfl, rfl, w0⟩ := open_int Try.underlying3 (hval 0 3 v0 rfl rfl) h0
  obtain ⟨a1, rfl, rfl, rfl, w1⟩ := open_int Try.underlying3 (hval 1 3 v1 rfl rfl) h1
  clear hA0 hval0
  refine (walk a0 a1 W).mono fun e W' ⟨he, bel⟩ => ?_
  subst he
  exact ⟨_, rfl, _, _, _, [], _, [], hW', trodAll_mk1 (shut_bool Try.underlying4 _), (trodAll_cons_mk (Below.trod laidOut (by kernel_rfl) (of_decide_eq_true (by kernel_rfl)) h0 bel (fun x hx => by first | exact absurd hx (by simp) | exact hlt x (by simpa using hx) | exact hlt x (by simp; exact Or.inl hx) | exact hlt x (by simp; exact Or.inr hx) | exact hlt x (by simp; exact Or.inr (Or.inl hx)) | exact hlt x (by simp; exact Or.inr (Or.inr hx)))) (trodAll_cons_mk (Below.trod laidOut (by kernel_rfl) (of_decide_eq_true (by kernel_rfl)) h1 bel (fun x hx => by first | exact absurd hx (by simp) | exact hlt x (by simpa using hx) | exact hlt x (by simp; exact Or.inl hx) | exact hlt x (by simp; exact Or.inr hx) | exact hlt x (by simp; exact Or.inr (Or.inl hx)) | exact hlt x (by simp; exact Or.inr (Or.inr hx)))) trodAll_mk0)), rfl, bel.frame _, fun h => by cases h⟩

theorem over : Rows.tablesRootsRow.holds Try.pinned (OpenSpec.ofChange Rows.tablesRootsSpec) :=
  OpenClaim.holds_of_wide 5 Try.f5 rfl rfl rfl rfl rfl rfl rfl ⟨rfl, rfl, rfl, rfl, rfl⟩ rfl rfl rfl rfl rfl (by kernel_rfl) Try.func5 (by kernel_rfl)
    (of_decide_eq_true (by kernel_rfl)) (by unfold Func.isWrapper; first | (rw [if_pos (by decide +kernel)]; kernel_rfl) | (rw [if_neg (by decide +kernel)]; exact ⟨rfl, rfl⟩))
    (fun os started H enc _ => lifted os started H enc)

theorem proved : Rows.TablesRootsSaid :=
  over
end Go.Proofs.Ytdmepbjcnnggaaa.lroots
