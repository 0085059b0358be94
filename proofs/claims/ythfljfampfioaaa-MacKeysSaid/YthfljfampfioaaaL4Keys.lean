/-
  The statement MacKeys (P4.6): noughts behind a key that fits make no difference, and a key that is too long is as good as its hash. Conditions: none; for every input that the form speaks of.
-/
import Derived.Test.YthfljfampfioaaaRows
import Derived.Test.YthfljfampfioaaaAwake4
import Derived.Test.YthfljfampfioaaaQOps
import Derived.ShutString
import Derived.ProofKit
import Derived.OpenShut
import Derived.Carry
namespace Go.Proofs.Ythfljfampfioaaa.lkeys
open Go.ChangeShapes Go.WideShapes Go.ChangeAt Go.RowKit
open Go.ChangeMaps (open_string shut_string)
open Go.Proofs.Ythfljfampfioaaa.oct Go.Proofs.Ythfljfampfioaaa.qops Go.Proofs.Ythfljfampfioaaa.arr Go.Proofs.Ythfljfampfioaaa.mem Go.Proofs.Ythfljfampfioaaa.tabv Go.Proofs.Ythfljfampfioaaa.built Go.Proofs.Ythfljfampfioaaa.hashs Go.Proofs.Ythfljfampfioaaa.macm
set_option linter.unusedVariables false
theorem own : ownKnob Try.prog.godebug = none := by kernel_rfl
theorem laidOut : laidOutB Try.prog = true := by kernel_rfl

theorem rem_nat (i : Int) (c : Nat) (hc : 0 < c) : ∃ r : Nat, r < c ∧ (IntKind.u64.wrap i) % (c : Int) = (r : Int) ∧ (IntKind.u64.wrap i).tmod (c : Int) = (r : Int) := by
  have h : 0 ≤ IntKind.u64.wrap i := by rw [IntKind.wrap_u64]; omega
  have h2 := Int.emod_nonneg (IntKind.u64.wrap i) (show (c : Int) ≠ 0 by omega)
  have h3 := Int.emod_lt_of_pos (IntKind.u64.wrap i) (show (0 : Int) < c by omega)
  refine ⟨((IntKind.u64.wrap i) % (c : Int)).toNat, by omega, by omega, ?_⟩
  rw [Int.tmod_eq_emod_of_nonneg h]; omega
theorem zeros_is (r : Nat) : fixL 0 r = List.replicate r 0 := by
  induction r with
  | zero => rfl
  | succ r ih => rw [fixL, ih, List.replicate_succ]; simp [byteAt]
theorem hm_long (x : Wd) (b : Bool) (key s : List UInt8) (h : bN b < key.length) : hm x b (hx x b key) s = hm x b key s := by
  have hb := bN_le b
  have hn := hN_le b
  have e1 : ky x b key = hx x b key := if_pos h
  have e2 : ky x b (hx x b key) = hx x b key := if_neg (by rw [hx_length]; omega)
  rw [hm, hm, e1, e2]
theorem hm_zeros (x : Wd) (b : Bool) (key s : List UInt8) (r : Nat) (h : key.length + r ≤ bN b) : hm x b (key ++ fixL 0 r) s = hm x b key s := by
  have e1 : ky x b key = key := if_neg (by omega)
  have e2 : ky x b (key ++ fixL 0 r) = key ++ fixL 0 r := if_neg (by rw [List.length_append, fixL_length]; omega)
  have e3 : ∀ c, mx (key ++ fixL 0 r) (bN b) c = mx key (bN b) c := by
    intro c
    rw [mx, mx, zeros_is, List.length_append, List.length_replicate, List.append_assoc, List.replicate_append_replicate, show r + (bN b - (key.length + r)) = bN b - key.length by omega]
  rw [hm, hm, e1, e2, e3, e3]
set_option maxRecDepth 100000 in
set_option maxHeartbeats 2000000 in
theorem far1 (key s : ByteArray) (n : Int) (w : World) (h : 500 < key.size) :
    Calls Try.prog 5 #[.string key, .string s, .int .i64 n] w fun e w' => e = .returned (.bool true) ∧ Below w.heap.size w w' := by
  go_enter Try.func5, Try.ntmps5
  go_wp2_with fail
  refine (awake4.live_any _).mono ?_
  rintro e w3 ⟨rfl, hb⟩
  go_wp2_with fail
  go_ret
  exact ⟨rfl, hb⟩
set_option maxRecDepth 100000 in
set_option maxHeartbeats 2000000 in
theorem far2 (key s : ByteArray) (n : Int) (w : World) (h0 : key.size ≤ 500) (h : 2000 < s.size) :
    Calls Try.prog 5 #[.string key, .string s, .int .i64 n] w fun e w' => e = .returned (.bool true) ∧ Below w.heap.size w w' := by
  go_enter Try.func5, Try.ntmps5
  go_wp2_with fail
  refine (awake4.live_any _).mono ?_
  rintro e w3 ⟨rfl, hb⟩
  go_wp2_with fail
  go_ret
  exact ⟨rfl, hb⟩
set_option maxRecDepth 100000 in
set_option maxHeartbeats 4000000 in
theorem near_short (key s : ByteArray) (n : Int) (w : World) (hs : s.size ≤ 2000) (hk : key.size ≤ 500) (hwf : key.size ≤ 64) (hwt : key.size ≤ 128) :
    Calls Try.prog 5 #[.string key, .string s, .int .i64 n] w fun e w' => e = .returned (.bool true) ∧ Below w.heap.size w w' := by
  obtain ⟨hz, hsize⟩ := zero_of_info infoT
  obtain ⟨Z, HZ⟩ := ex_eq TZ
  rw [HZ.out] at hz
  have HZs : Away (Z.size = 465) := ⟨by rw [← HZ.out]; exact tz_size⟩
  have Hsize := Away.mk hsize
  clear hsize
  have htx := awake4.tx_doc
  obtain ⟨T, HT⟩ := ex_eq TA
  rw [HT.out] at htx
  have HTs : Away (T.size = 465) := ⟨htx.size⟩
  have HTo : Away (T.all (·.oneCell') = true) := ⟨htx.one⟩
  have Hmk : Away (∀ w1 : World, Calls Try.prog 17 #[] w1 fun e w' => e = .returned (.agg T) ∧ Below w1.heap.size w1 w') := ⟨fun w1 => by rw [← HT.out]; exact make.make_any w1⟩
  have hkl : key.data.toList.length = key.size := rfl
  obtain ⟨Af, hAf⟩ : ∃ A : ByteArray, (⟨(hm wx false key.data.toList s.data.toList).toArray⟩ : ByteArray) = A := ⟨_, rfl⟩
  have HAf : Away (∀ w1 : World, Calls Try.prog 11 #[.agg T, .bool false, .string key, .string s] w1 fun e w' => e = .returned (.string Af) ∧ Below w1.heap.size w1 w') := ⟨fun w1 => by rw [← hAf]; exact hmac.hmac_any T wx false key s w1 htx (by omega) (by omega)⟩
  obtain ⟨rf, hrf, erf, eqf⟩ := rem_nat n (64 - key.size + 1) (by omega)
  rw [show ((64 - key.size + 1 : Nat) : Int) = 64 - (key.size : Int) + 1 by omega] at erf eqf
  obtain ⟨Ff, hFf⟩ : ∃ F : ByteArray, (⟨(fixL 0 rf).toArray⟩ : ByteArray) = F := ⟨_, rfl⟩
  have sFf : Ff.size = rf := by rw [← hFf]; show (fixL 0 rf).toArray.size = _; rw [List.size_toArray, fixL_length]
  have HFf : Away (∀ w1 : World, Calls Try.prog 18 #[.int .u64 0, .int .i64 (rf : Int)] w1 fun e w' => e = .returned (.string Ff) ∧ Below w1.heap.size w1 w') := ⟨fun w1 => by
    have hh := fixed.fixed_any 0 (rf : Int) w1 (by omega)
    rw [fixS_wd _ _ (by omega), hFf] at hh
    exact hh⟩
  have HBf : Away (∀ w1 : World, Calls Try.prog 11 #[.agg T, .bool false, .string (key ++ Ff), .string s] w1 fun e w' => e = .returned (.string Af) ∧ Below w1.heap.size w1 w') := ⟨fun w1 => by
    have hh := hmac.hmac_any T wx false (key ++ Ff) s w1 htx (by rw [ByteArray.size_append, sFf]; omega) (by omega)
    have e : (key ++ Ff).data.toList = key.data.toList ++ fixL 0 rf := by rw [← hFf]; simp
    rw [e, hm_zeros wx false _ _ _ (by rw [hkl]; show key.size + rf ≤ 64; omega), hAf] at hh
    exact hh⟩
  have Erf := Away.mk (And.intro hrf (And.intro erf (And.intro eqf sFf)))
  clear hAf hFf hrf erf eqf sFf
  obtain ⟨At, hAt⟩ : ∃ A : ByteArray, (⟨(hm wx true key.data.toList s.data.toList).toArray⟩ : ByteArray) = A := ⟨_, rfl⟩
  have HAt : Away (∀ w1 : World, Calls Try.prog 11 #[.agg T, .bool true, .string key, .string s] w1 fun e w' => e = .returned (.string At) ∧ Below w1.heap.size w1 w') := ⟨fun w1 => by rw [← hAt]; exact hmac.hmac_any T wx true key s w1 htx (by omega) (by omega)⟩
  obtain ⟨rt, hrt, ert, eqt⟩ := rem_nat n (128 - key.size + 1) (by omega)
  rw [show ((128 - key.size + 1 : Nat) : Int) = 128 - (key.size : Int) + 1 by omega] at ert eqt
  obtain ⟨Ft, hFt⟩ : ∃ F : ByteArray, (⟨(fixL 0 rt).toArray⟩ : ByteArray) = F := ⟨_, rfl⟩
  have sFt : Ft.size = rt := by rw [← hFt]; show (fixL 0 rt).toArray.size = _; rw [List.size_toArray, fixL_length]
  have HFt : Away (∀ w1 : World, Calls Try.prog 18 #[.int .u64 0, .int .i64 (rt : Int)] w1 fun e w' => e = .returned (.string Ft) ∧ Below w1.heap.size w1 w') := ⟨fun w1 => by
    have hh := fixed.fixed_any 0 (rt : Int) w1 (by omega)
    rw [fixS_wd _ _ (by omega), hFt] at hh
    exact hh⟩
  have HBt : Away (∀ w1 : World, Calls Try.prog 11 #[.agg T, .bool true, .string (key ++ Ft), .string s] w1 fun e w' => e = .returned (.string At) ∧ Below w1.heap.size w1 w') := ⟨fun w1 => by
    have hh := hmac.hmac_any T wx true (key ++ Ft) s w1 htx (by rw [ByteArray.size_append, sFt]; omega) (by omega)
    have e : (key ++ Ft).data.toList = key.data.toList ++ fixL 0 rt := by rw [← hFt]; simp
    rw [e, hm_zeros wx true _ _ _ (by rw [hkl]; show key.size + rt ≤ 128; omega), hAt] at hh
    exact hh⟩
  have Ert := Away.mk (And.intro hrt (And.intro ert (And.intro eqt sFt)))
  clear hAt hFt hrt ert eqt sFt
  clear htx HT HZ
  go_enter Try.func5, Try.ntmps5
  go_wp2_with fail
  refine (Hmk.out _).mono ?_
  rintro e w1 ⟨rfl, hb1⟩
  go_wp2_with (refine wpList_store_new rfl 33 _ _ rfl _ rfl rfl (by rw [HTs.out]; exact Hsize.out) (by rw [HTs.out]; exact HZs.out) HTo.out rfl ?_)
  clear hz
  obtain ⟨W, hW⟩ : ∃ W, (w1.alloc (.cells T 33)).alloc (.cells #[.bool false, .bool true] 4) = W := ⟨_, rfl⟩
  have hg0 : W.heap[w1.heap.size]? = some (.cells T 33 (0, 0)) := by rw [← hW, heap_past _ _ _ (by simp), heap_at _ _ _ rfl]
  have hg1 : W.heap[w1.heap.size + 1]? = some (.cells #[.bool false, .bool true] 4 (0, 0)) := by rw [← hW, heap_at _ _ _ (by simp)]
  have Hb : Away (Below w.heap.size w W) := ⟨by rw [← hW]; exact (hb1.alloc hb1.size _).alloc (by have := hb1.size; simp; omega) _⟩
  have Hg0 := Away.mk hg0
  have Hg1 := Away.mk hg1
  rw [hW]
  clear hW hb1 hg0 hg1
  go_loopw [25] (fun i wr => (i = .int .i64 0 ∨ i = .int .i64 1 ∨ i = .int .i64 2) ∧ Away (Below W.heap.size W wr)) (fun i _ => 2 - (intOf i).toNat)
  case atStart => exact ⟨Or.inl rfl, ⟨Below.refl _ _⟩⟩
  case round =>
    obtain ⟨hi, Hbe⟩ := hrel
    have F0 : Away (wr.heap[w1.heap.size]? = some (.cells T 33 (0, 0))) := ⟨(Hbe.out.block _ (lt_of_row Hg0.out)).trans Hg0.out⟩
    have f1 := (Hbe.out.block _ (lt_of_row Hg1.out)).trans Hg1.out
    have c0 : wr.cell? ⟨w1.heap.size + 1, 0, none⟩ = some (.bool false) := (cell_of_row wr _ 0 _ _ (0, 0) f1).trans rfl
    have c1 : wr.cell? ⟨w1.heap.size + 1, 1, none⟩ = some (.bool true) := (cell_of_row wr _ 1 _ _ (0, 0) f1).trans rfl
    clear f1
    rcases hi with rfl | rfl | rfl
    · go_wp2_with (refine wpList_load_row rfl 33 _ rfl w1.heap.size rfl 33 T (0, 0) _ F0.out Try.underlying33 rfl (by rw [HTs.out]; exact sizeT) ?_)
      refine (HAf.out _).mono ?_
      rintro e w2 ⟨rfl, hb2⟩
      have G2 : Away (w2.heap[w1.heap.size]? = some (.cells T 33 (0, 0))) := ⟨(hb2.block _ (lt_of_row F0.out)).trans F0.out⟩
      have Hb2 : Away (Below W.heap.size W w2) := ⟨Hbe.out.trans (hb2.mono Hbe.out.size)⟩
      have hd : decide ((64 : Int) < (key.size : Int)) = false := by first | exact decide_eq_true (by omega) | exact decide_eq_false (by omega)
      clear hb2 c0 c1
      go_wp2_with fail
      refine region_quiet_ops (by kernel_rfl) (by kernel_rfl) (fun ops HO => ?_)
      quiet_step (skip)
      quiet_step (skip)
      quiet_step (skip)
      quiet_step (skip)
      quiet_step (skip)
      refine wpQuiet_skip (by rw [← HO.out]; kernel_rfl) ?_
      refine wpQuiet_skip (by rw [← HO.out]; kernel_rfl) ?_
      refine wpQuiet_skip (by rw [← HO.out]; kernel_rfl) ?_
      refine wpQuiet_skip (by rw [← HO.out]; kernel_rfl) ?_
      refine wpQuiet_skip (by rw [← HO.out]; kernel_rfl) ?_
      refine wpQuiet_skip (by rw [← HO.out]; kernel_rfl) ?_
      refine wpQuiet_skip (by rw [← HO.out]; kernel_rfl) ?_
      refine wpQuiet_skip (by rw [← HO.out]; kernel_rfl) ?_
      refine wpQuiet_skip (by rw [← HO.out]; kernel_rfl) ?_
      refine wpQuiet_skip (by rw [← HO.out]; kernel_rfl) ?_
      quiet_step (skip)
      refine wpQuiet_nil ?_
      intro w3 hC
      have hb3 : Below w2.heap.size w2 w3 := by
        obtain ⟨pp, rfl⟩ := hC
        exact below_regrown _ _ _
      have G3 : Away (w3.heap[w1.heap.size]? = some (.cells T 33 (0, 0))) := ⟨(hb3.block _ (lt_of_row G2.out)).trans G2.out⟩
      have Hb3 : Away (Below W.heap.size W w3) := ⟨Hb2.out.trans (hb3.mono Hb2.out.size)⟩
      clear hC hb3
      obtain ⟨hr, er, eq, sF⟩ := Erf.out
      go_wp2_with fail
      refine (HFf.out _).mono ?_
      rintro e w4 ⟨rfl, hb4⟩
      have G4 : Away (w4.heap[w1.heap.size]? = some (.cells T 33 (0, 0))) := ⟨(hb4.block _ (lt_of_row G3.out)).trans G3.out⟩
      have Hb4 : Away (Below W.heap.size W w4) := ⟨Hb3.out.trans (hb4.mono Hb3.out.size)⟩
      clear hb4
      go_wp2_with (refine wpList_load_row rfl 33 _ rfl w1.heap.size rfl 33 T (0, 0) _ G4.out Try.underlying33 rfl (by rw [HTs.out]; exact sizeT) ?_)
      refine (HBf.out _).mono ?_
      rintro e w5 ⟨rfl, hb5⟩
      have Hb5 : Away (Below W.heap.size W w5) := ⟨Hb4.out.trans (hb5.mono Hb4.out.size)⟩
      clear hb5
      go_wp2_with fail
      go_roundw
      case rel => exact ⟨Or.inr (Or.inl (by go_num)), ⟨Hb5.out⟩⟩
      case measure => simp [intOf]
    · go_wp2_with (refine wpList_load_row rfl 33 _ rfl w1.heap.size rfl 33 T (0, 0) _ F0.out Try.underlying33 rfl (by rw [HTs.out]; exact sizeT) ?_)
      refine (HAt.out _).mono ?_
      rintro e w2 ⟨rfl, hb2⟩
      have G2 : Away (w2.heap[w1.heap.size]? = some (.cells T 33 (0, 0))) := ⟨(hb2.block _ (lt_of_row F0.out)).trans F0.out⟩
      have Hb2 : Away (Below W.heap.size W w2) := ⟨Hbe.out.trans (hb2.mono Hbe.out.size)⟩
      have hd : decide ((128 : Int) < (key.size : Int)) = false := by first | exact decide_eq_true (by omega) | exact decide_eq_false (by omega)
      clear hb2 c0 c1
      go_wp2_with fail
      refine region_quiet_ops (by kernel_rfl) (by kernel_rfl) (fun ops HO => ?_)
      quiet_step (skip)
      quiet_step (skip)
      quiet_step (skip)
      quiet_step (skip)
      quiet_step (skip)
      refine wpQuiet_skip (by rw [← HO.out]; kernel_rfl) ?_
      refine wpQuiet_skip (by rw [← HO.out]; kernel_rfl) ?_
      refine wpQuiet_skip (by rw [← HO.out]; kernel_rfl) ?_
      refine wpQuiet_skip (by rw [← HO.out]; kernel_rfl) ?_
      refine wpQuiet_skip (by rw [← HO.out]; kernel_rfl) ?_
      refine wpQuiet_skip (by rw [← HO.out]; kernel_rfl) ?_
      refine wpQuiet_skip (by rw [← HO.out]; kernel_rfl) ?_
      refine wpQuiet_skip (by rw [← HO.out]; kernel_rfl) ?_
      refine wpQuiet_skip (by rw [← HO.out]; kernel_rfl) ?_
      refine wpQuiet_skip (by rw [← HO.out]; kernel_rfl) ?_
      quiet_step (skip)
      refine wpQuiet_nil ?_
      intro w3 hC
      have hb3 : Below w2.heap.size w2 w3 := by
        obtain ⟨pp, rfl⟩ := hC
        exact below_regrown _ _ _
      have G3 : Away (w3.heap[w1.heap.size]? = some (.cells T 33 (0, 0))) := ⟨(hb3.block _ (lt_of_row G2.out)).trans G2.out⟩
      have Hb3 : Away (Below W.heap.size W w3) := ⟨Hb2.out.trans (hb3.mono Hb2.out.size)⟩
      clear hC hb3
      obtain ⟨hr, er, eq, sF⟩ := Ert.out
      go_wp2_with fail
      refine (HFt.out _).mono ?_
      rintro e w4 ⟨rfl, hb4⟩
      have G4 : Away (w4.heap[w1.heap.size]? = some (.cells T 33 (0, 0))) := ⟨(hb4.block _ (lt_of_row G3.out)).trans G3.out⟩
      have Hb4 : Away (Below W.heap.size W w4) := ⟨Hb3.out.trans (hb4.mono Hb3.out.size)⟩
      clear hb4
      go_wp2_with (refine wpList_load_row rfl 33 _ rfl w1.heap.size rfl 33 T (0, 0) _ G4.out Try.underlying33 rfl (by rw [HTs.out]; exact sizeT) ?_)
      refine (HBt.out _).mono ?_
      rintro e w5 ⟨rfl, hb5⟩
      have Hb5 : Away (Below W.heap.size W w5) := ⟨Hb4.out.trans (hb5.mono Hb4.out.size)⟩
      clear hb5
      go_wp2_with fail
      go_roundw
      case rel => exact ⟨Or.inr (Or.inr (by go_num)), ⟨Hb5.out⟩⟩
      case measure => simp [intOf]
    · clear c0 c1
      go_wp2_with fail
      refine (awake4.live_any _).mono ?_
      rintro e w6 ⟨rfl, hb6⟩
      have Hb6 : Away (Below w.heap.size w w6) := ⟨Hb.out.trans ((Hbe.out.trans (hb6.mono Hbe.out.size)).mono Hb.out.size)⟩
      clear hb6
      go_wp2_with fail
      go_ret
      exact ⟨rfl, Hb6.out⟩
set_option maxRecDepth 100000 in
set_option maxHeartbeats 4000000 in
theorem near_mid (key s : ByteArray) (n : Int) (w : World) (hs : s.size ≤ 2000) (hk : key.size ≤ 500) (hwf : 64 < key.size) (hwt : key.size ≤ 128) :
    Calls Try.prog 5 #[.string key, .string s, .int .i64 n] w fun e w' => e = .returned (.bool true) ∧ Below w.heap.size w w' := by
  obtain ⟨hz, hsize⟩ := zero_of_info infoT
  obtain ⟨Z, HZ⟩ := ex_eq TZ
  rw [HZ.out] at hz
  have HZs : Away (Z.size = 465) := ⟨by rw [← HZ.out]; exact tz_size⟩
  have Hsize := Away.mk hsize
  clear hsize
  have htx := awake4.tx_doc
  obtain ⟨T, HT⟩ := ex_eq TA
  rw [HT.out] at htx
  have HTs : Away (T.size = 465) := ⟨htx.size⟩
  have HTo : Away (T.all (·.oneCell') = true) := ⟨htx.one⟩
  have Hmk : Away (∀ w1 : World, Calls Try.prog 17 #[] w1 fun e w' => e = .returned (.agg T) ∧ Below w1.heap.size w1 w') := ⟨fun w1 => by rw [← HT.out]; exact make.make_any w1⟩
  have hkl : key.data.toList.length = key.size := rfl
  obtain ⟨Af, hAf⟩ : ∃ A : ByteArray, (⟨(hm wx false key.data.toList s.data.toList).toArray⟩ : ByteArray) = A := ⟨_, rfl⟩
  have HAf : Away (∀ w1 : World, Calls Try.prog 11 #[.agg T, .bool false, .string key, .string s] w1 fun e w' => e = .returned (.string Af) ∧ Below w1.heap.size w1 w') := ⟨fun w1 => by rw [← hAf]; exact hmac.hmac_any T wx false key s w1 htx (by omega) (by omega)⟩
  obtain ⟨Kf, hKf⟩ : ∃ K : ByteArray, (⟨(hx wx false key.data.toList).toArray⟩ : ByteArray) = K := ⟨_, rfl⟩
  have HKf : Away (∀ w1 : World, Calls Try.prog 9 #[.agg T, .bool false, .string key] w1 fun e w' => e = .returned (.string Kf) ∧ Below w1.heap.size w1 w') := ⟨fun w1 => by rw [← hKf]; exact mach.hash_any T wx false key w1 htx (by omega)⟩
  have HBf : Away (∀ w1 : World, Calls Try.prog 11 #[.agg T, .bool false, .string Kf, .string s] w1 fun e w' => e = .returned (.string Af) ∧ Below w1.heap.size w1 w') := ⟨fun w1 => by
    have hh := hmac.hmac_any T wx false Kf s w1 htx (by rw [← hKf]; show (hx wx false key.data.toList).toArray.size ≤ _; rw [List.size_toArray, hx_length]; decide) (by omega)
    have e : Kf.data.toList = hx wx false key.data.toList := by rw [← hKf]
    rw [e, hm_long wx false _ _ (by rw [hkl]; exact hwf), hAf] at hh
    exact hh⟩
  clear hAf hKf
  obtain ⟨At, hAt⟩ : ∃ A : ByteArray, (⟨(hm wx true key.data.toList s.data.toList).toArray⟩ : ByteArray) = A := ⟨_, rfl⟩
  have HAt : Away (∀ w1 : World, Calls Try.prog 11 #[.agg T, .bool true, .string key, .string s] w1 fun e w' => e = .returned (.string At) ∧ Below w1.heap.size w1 w') := ⟨fun w1 => by rw [← hAt]; exact hmac.hmac_any T wx true key s w1 htx (by omega) (by omega)⟩
  obtain ⟨rt, hrt, ert, eqt⟩ := rem_nat n (128 - key.size + 1) (by omega)
  rw [show ((128 - key.size + 1 : Nat) : Int) = 128 - (key.size : Int) + 1 by omega] at ert eqt
  obtain ⟨Ft, hFt⟩ : ∃ F : ByteArray, (⟨(fixL 0 rt).toArray⟩ : ByteArray) = F := ⟨_, rfl⟩
  have sFt : Ft.size = rt := by rw [← hFt]; show (fixL 0 rt).toArray.size = _; rw [List.size_toArray, fixL_length]
  have HFt : Away (∀ w1 : World, Calls Try.prog 18 #[.int .u64 0, .int .i64 (rt : Int)] w1 fun e w' => e = .returned (.string Ft) ∧ Below w1.heap.size w1 w') := ⟨fun w1 => by
    have hh := fixed.fixed_any 0 (rt : Int) w1 (by omega)
    rw [fixS_wd _ _ (by omega), hFt] at hh
    exact hh⟩
  have HBt : Away (∀ w1 : World, Calls Try.prog 11 #[.agg T, .bool true, .string (key ++ Ft), .string s] w1 fun e w' => e = .returned (.string At) ∧ Below w1.heap.size w1 w') := ⟨fun w1 => by
    have hh := hmac.hmac_any T wx true (key ++ Ft) s w1 htx (by rw [ByteArray.size_append, sFt]; omega) (by omega)
    have e : (key ++ Ft).data.toList = key.data.toList ++ fixL 0 rt := by rw [← hFt]; simp
    rw [e, hm_zeros wx true _ _ _ (by rw [hkl]; show key.size + rt ≤ 128; omega), hAt] at hh
    exact hh⟩
  have Ert := Away.mk (And.intro hrt (And.intro ert (And.intro eqt sFt)))
  clear hAt hFt hrt ert eqt sFt
  clear htx HT HZ
  go_enter Try.func5, Try.ntmps5
  go_wp2_with fail
  refine (Hmk.out _).mono ?_
  rintro e w1 ⟨rfl, hb1⟩
  go_wp2_with (refine wpList_store_new rfl 33 _ _ rfl _ rfl rfl (by rw [HTs.out]; exact Hsize.out) (by rw [HTs.out]; exact HZs.out) HTo.out rfl ?_)
  clear hz
  obtain ⟨W, hW⟩ : ∃ W, (w1.alloc (.cells T 33)).alloc (.cells #[.bool false, .bool true] 4) = W := ⟨_, rfl⟩
  have hg0 : W.heap[w1.heap.size]? = some (.cells T 33 (0, 0)) := by rw [← hW, heap_past _ _ _ (by simp), heap_at _ _ _ rfl]
  have hg1 : W.heap[w1.heap.size + 1]? = some (.cells #[.bool false, .bool true] 4 (0, 0)) := by rw [← hW, heap_at _ _ _ (by simp)]
  have Hb : Away (Below w.heap.size w W) := ⟨by rw [← hW]; exact (hb1.alloc hb1.size _).alloc (by have := hb1.size; simp; omega) _⟩
  have Hg0 := Away.mk hg0
  have Hg1 := Away.mk hg1
  rw [hW]
  clear hW hb1 hg0 hg1
  go_loopw [25] (fun i wr => (i = .int .i64 0 ∨ i = .int .i64 1 ∨ i = .int .i64 2) ∧ Away (Below W.heap.size W wr)) (fun i _ => 2 - (intOf i).toNat)
  case atStart => exact ⟨Or.inl rfl, ⟨Below.refl _ _⟩⟩
  case round =>
    obtain ⟨hi, Hbe⟩ := hrel
    have F0 : Away (wr.heap[w1.heap.size]? = some (.cells T 33 (0, 0))) := ⟨(Hbe.out.block _ (lt_of_row Hg0.out)).trans Hg0.out⟩
    have f1 := (Hbe.out.block _ (lt_of_row Hg1.out)).trans Hg1.out
    have c0 : wr.cell? ⟨w1.heap.size + 1, 0, none⟩ = some (.bool false) := (cell_of_row wr _ 0 _ _ (0, 0) f1).trans rfl
    have c1 : wr.cell? ⟨w1.heap.size + 1, 1, none⟩ = some (.bool true) := (cell_of_row wr _ 1 _ _ (0, 0) f1).trans rfl
    clear f1
    rcases hi with rfl | rfl | rfl
    · go_wp2_with (refine wpList_load_row rfl 33 _ rfl w1.heap.size rfl 33 T (0, 0) _ F0.out Try.underlying33 rfl (by rw [HTs.out]; exact sizeT) ?_)
      refine (HAf.out _).mono ?_
      rintro e w2 ⟨rfl, hb2⟩
      have G2 : Away (w2.heap[w1.heap.size]? = some (.cells T 33 (0, 0))) := ⟨(hb2.block _ (lt_of_row F0.out)).trans F0.out⟩
      have Hb2 : Away (Below W.heap.size W w2) := ⟨Hbe.out.trans (hb2.mono Hbe.out.size)⟩
      have hd : decide ((64 : Int) < (key.size : Int)) = true := by first | exact decide_eq_true (by omega) | exact decide_eq_false (by omega)
      clear hb2 c0 c1
      go_wp2_with fail
      refine region_quiet_ops (by kernel_rfl) (by kernel_rfl) (fun ops HO => ?_)
      quiet_step (skip)
      quiet_step (skip)
      quiet_step (skip)
      quiet_step (skip)
      quiet_step (skip)
      refine wpQuiet_want (by rw [← HO.out]; kernel_rfl) (fun K hK => ?_)
      go_simp
      refine hK _ ?_
      clear hK K
      refine wpQuiet_load (by rw [← HO.out]; kernel_rfl) 33 _ rfl _ rfl 33 _ _ (fun w' hC => heap_regrown G2.out hC) Try.underlying33 rfl (by rw [HTs.out]; exact sizeT) ?_
      refine wpQuiet_want (by rw [← HO.out]; kernel_rfl) (fun K hK => ?_)
      go_simp
      refine hK _ ?_
      clear hK K
      refine wpQuiet_load (by rw [← HO.out]; kernel_rfl) 33 _ rfl _ rfl 33 _ _ (fun w' hC => heap_regrown G2.out hC) Try.underlying33 rfl (by rw [HTs.out]; exact sizeT) ?_
      refine wpQuiet_want (by rw [← HO.out]; kernel_rfl) (fun K hK => ?_)
      go_simp
      refine hK _ ?_
      clear hK K
      refine wpQuiet_want (by rw [← HO.out]; kernel_rfl) (fun K hK => ?_)
      go_simp
      refine hK _ ?_
      clear hK K
      refine wpQuiet_want (by rw [← HO.out]; kernel_rfl) (fun K hK => ?_)
      go_simp
      apply Exists.intro
      refine ⟨fun _ => ?_, hK _ ?_⟩
      exact Calls.regrown_of (HKf.out _)
      clear hK K
      refine wpQuiet_want (by rw [← HO.out]; kernel_rfl) (fun K hK => ?_)
      go_simp
      refine hK _ ?_
      clear hK K
      refine wpQuiet_want (by rw [← HO.out]; kernel_rfl) (fun K hK => ?_)
      go_simp
      apply Exists.intro
      refine ⟨fun _ => ?_, hK _ ?_⟩
      exact Calls.regrown_of (HBf.out _)
      clear hK K
      refine wpQuiet_want (by rw [← HO.out]; kernel_rfl) (fun K hK => ?_)
      go_simp
      refine hK _ ?_
      clear hK K
      quiet_step (skip)
      refine wpQuiet_nil ?_
      intro w3 hC
      have hb3 : Below w2.heap.size w2 w3 := by
        obtain ⟨pp, rfl⟩ := hC
        exact below_regrown _ _ _
      have G3 : Away (w3.heap[w1.heap.size]? = some (.cells T 33 (0, 0))) := ⟨(hb3.block _ (lt_of_row G2.out)).trans G2.out⟩
      have Hb3 : Away (Below W.heap.size W w3) := ⟨Hb2.out.trans (hb3.mono Hb2.out.size)⟩
      clear hC hb3
      go_wp2_with fail
      go_roundw
      case rel => exact ⟨Or.inr (Or.inl (by go_num)), ⟨Hb3.out⟩⟩
      case measure => simp [intOf]
    · go_wp2_with (refine wpList_load_row rfl 33 _ rfl w1.heap.size rfl 33 T (0, 0) _ F0.out Try.underlying33 rfl (by rw [HTs.out]; exact sizeT) ?_)
      refine (HAt.out _).mono ?_
      rintro e w2 ⟨rfl, hb2⟩
      have G2 : Away (w2.heap[w1.heap.size]? = some (.cells T 33 (0, 0))) := ⟨(hb2.block _ (lt_of_row F0.out)).trans F0.out⟩
      have Hb2 : Away (Below W.heap.size W w2) := ⟨Hbe.out.trans (hb2.mono Hbe.out.size)⟩
      have hd : decide ((128 : Int) < (key.size : Int)) = false := by first | exact decide_eq_true (by omega) | exact decide_eq_false (by omega)
      clear hb2 c0 c1
      go_wp2_with fail
      refine region_quiet_ops (by kernel_rfl) (by kernel_rfl) (fun ops HO => ?_)
      quiet_step (skip)
      quiet_step (skip)
      quiet_step (skip)
      quiet_step (skip)
      quiet_step (skip)
      refine wpQuiet_skip (by rw [← HO.out]; kernel_rfl) ?_
      refine wpQuiet_skip (by rw [← HO.out]; kernel_rfl) ?_
      refine wpQuiet_skip (by rw [← HO.out]; kernel_rfl) ?_
      refine wpQuiet_skip (by rw [← HO.out]; kernel_rfl) ?_
      refine wpQuiet_skip (by rw [← HO.out]; kernel_rfl) ?_
      refine wpQuiet_skip (by rw [← HO.out]; kernel_rfl) ?_
      refine wpQuiet_skip (by rw [← HO.out]; kernel_rfl) ?_
      refine wpQuiet_skip (by rw [← HO.out]; kernel_rfl) ?_
      refine wpQuiet_skip (by rw [← HO.out]; kernel_rfl) ?_
      refine wpQuiet_skip (by rw [← HO.out]; kernel_rfl) ?_
      quiet_step (skip)
      refine wpQuiet_nil ?_
      intro w3 hC
      have hb3 : Below w2.heap.size w2 w3 := by
        obtain ⟨pp, rfl⟩ := hC
        exact below_regrown _ _ _
      have G3 : Away (w3.heap[w1.heap.size]? = some (.cells T 33 (0, 0))) := ⟨(hb3.block _ (lt_of_row G2.out)).trans G2.out⟩
      have Hb3 : Away (Below W.heap.size W w3) := ⟨Hb2.out.trans (hb3.mono Hb2.out.size)⟩
      clear hC hb3
      obtain ⟨hr, er, eq, sF⟩ := Ert.out
      go_wp2_with fail
      refine (HFt.out _).mono ?_
      rintro e w4 ⟨rfl, hb4⟩
      have G4 : Away (w4.heap[w1.heap.size]? = some (.cells T 33 (0, 0))) := ⟨(hb4.block _ (lt_of_row G3.out)).trans G3.out⟩
      have Hb4 : Away (Below W.heap.size W w4) := ⟨Hb3.out.trans (hb4.mono Hb3.out.size)⟩
      clear hb4
      go_wp2_with (refine wpList_load_row rfl 33 _ rfl w1.heap.size rfl 33 T (0, 0) _ G4.out Try.underlying33 rfl (by rw [HTs.out]; exact sizeT) ?_)
      refine (HBt.out _).mono ?_
      rintro e w5 ⟨rfl, hb5⟩
      have Hb5 : Away (Below W.heap.size W w5) := ⟨Hb4.out.trans (hb5.mono Hb4.out.size)⟩
      clear hb5
      go_wp2_with fail
      go_roundw
      case rel => exact ⟨Or.inr (Or.inr (by go_num)), ⟨Hb5.out⟩⟩
      case measure => simp [intOf]
    · clear c0 c1
      go_wp2_with fail
      refine (awake4.live_any _).mono ?_
      rintro e w6 ⟨rfl, hb6⟩
      have Hb6 : Away (Below w.heap.size w w6) := ⟨Hb.out.trans ((Hbe.out.trans (hb6.mono Hbe.out.size)).mono Hb.out.size)⟩
      clear hb6
      go_wp2_with fail
      go_ret
      exact ⟨rfl, Hb6.out⟩
set_option maxRecDepth 100000 in
set_option maxHeartbeats 4000000 in
theorem near_long (key s : ByteArray) (n : Int) (w : World) (hs : s.size ≤ 2000) (hk : key.size ≤ 500) (hwf : 64 < key.size) (hwt : 128 < key.size) :
    Calls Try.prog 5 #[.string key, .string s, .int .i64 n] w fun e w' => e = .returned (.bool true) ∧ Below w.heap.size w w' := by
  obtain ⟨hz, hsize⟩ := zero_of_info infoT
  obtain ⟨Z, HZ⟩ := ex_eq TZ
  rw [HZ.out] at hz
  have HZs : Away (Z.size = 465) := ⟨by rw [← HZ.out]; exact tz_size⟩
  have Hsize := Away.mk hsize
  clear hsize
  have htx := awake4.tx_doc
  obtain ⟨T, HT⟩ := ex_eq TA
  rw [HT.out] at htx
  have HTs : Away (T.size = 465) := ⟨htx.size⟩
  have HTo : Away (T.all (·.oneCell') = true) := ⟨htx.one⟩
  have Hmk : Away (∀ w1 : World, Calls Try.prog 17 #[] w1 fun e w' => e = .returned (.agg T) ∧ Below w1.heap.size w1 w') := ⟨fun w1 => by rw [← HT.out]; exact make.make_any w1⟩
  have hkl : key.data.toList.length = key.size := rfl
  obtain ⟨Af, hAf⟩ : ∃ A : ByteArray, (⟨(hm wx false key.data.toList s.data.toList).toArray⟩ : ByteArray) = A := ⟨_, rfl⟩
  have HAf : Away (∀ w1 : World, Calls Try.prog 11 #[.agg T, .bool false, .string key, .string s] w1 fun e w' => e = .returned (.string Af) ∧ Below w1.heap.size w1 w') := ⟨fun w1 => by rw [← hAf]; exact hmac.hmac_any T wx false key s w1 htx (by omega) (by omega)⟩
  obtain ⟨Kf, hKf⟩ : ∃ K : ByteArray, (⟨(hx wx false key.data.toList).toArray⟩ : ByteArray) = K := ⟨_, rfl⟩
  have HKf : Away (∀ w1 : World, Calls Try.prog 9 #[.agg T, .bool false, .string key] w1 fun e w' => e = .returned (.string Kf) ∧ Below w1.heap.size w1 w') := ⟨fun w1 => by rw [← hKf]; exact mach.hash_any T wx false key w1 htx (by omega)⟩
  have HBf : Away (∀ w1 : World, Calls Try.prog 11 #[.agg T, .bool false, .string Kf, .string s] w1 fun e w' => e = .returned (.string Af) ∧ Below w1.heap.size w1 w') := ⟨fun w1 => by
    have hh := hmac.hmac_any T wx false Kf s w1 htx (by rw [← hKf]; show (hx wx false key.data.toList).toArray.size ≤ _; rw [List.size_toArray, hx_length]; decide) (by omega)
    have e : Kf.data.toList = hx wx false key.data.toList := by rw [← hKf]
    rw [e, hm_long wx false _ _ (by rw [hkl]; exact hwf), hAf] at hh
    exact hh⟩
  clear hAf hKf
  obtain ⟨At, hAt⟩ : ∃ A : ByteArray, (⟨(hm wx true key.data.toList s.data.toList).toArray⟩ : ByteArray) = A := ⟨_, rfl⟩
  have HAt : Away (∀ w1 : World, Calls Try.prog 11 #[.agg T, .bool true, .string key, .string s] w1 fun e w' => e = .returned (.string At) ∧ Below w1.heap.size w1 w') := ⟨fun w1 => by rw [← hAt]; exact hmac.hmac_any T wx true key s w1 htx (by omega) (by omega)⟩
  obtain ⟨Kt, hKt⟩ : ∃ K : ByteArray, (⟨(hx wx true key.data.toList).toArray⟩ : ByteArray) = K := ⟨_, rfl⟩
  have HKt : Away (∀ w1 : World, Calls Try.prog 9 #[.agg T, .bool true, .string key] w1 fun e w' => e = .returned (.string Kt) ∧ Below w1.heap.size w1 w') := ⟨fun w1 => by rw [← hKt]; exact mach.hash_any T wx true key w1 htx (by omega)⟩
  have HBt : Away (∀ w1 : World, Calls Try.prog 11 #[.agg T, .bool true, .string Kt, .string s] w1 fun e w' => e = .returned (.string At) ∧ Below w1.heap.size w1 w') := ⟨fun w1 => by
    have hh := hmac.hmac_any T wx true Kt s w1 htx (by rw [← hKt]; show (hx wx true key.data.toList).toArray.size ≤ _; rw [List.size_toArray, hx_length]; decide) (by omega)
    have e : Kt.data.toList = hx wx true key.data.toList := by rw [← hKt]
    rw [e, hm_long wx true _ _ (by rw [hkl]; exact hwt), hAt] at hh
    exact hh⟩
  clear hAt hKt
  clear htx HT HZ
  go_enter Try.func5, Try.ntmps5
  go_wp2_with fail
  refine (Hmk.out _).mono ?_
  rintro e w1 ⟨rfl, hb1⟩
  go_wp2_with (refine wpList_store_new rfl 33 _ _ rfl _ rfl rfl (by rw [HTs.out]; exact Hsize.out) (by rw [HTs.out]; exact HZs.out) HTo.out rfl ?_)
  clear hz
  obtain ⟨W, hW⟩ : ∃ W, (w1.alloc (.cells T 33)).alloc (.cells #[.bool false, .bool true] 4) = W := ⟨_, rfl⟩
  have hg0 : W.heap[w1.heap.size]? = some (.cells T 33 (0, 0)) := by rw [← hW, heap_past _ _ _ (by simp), heap_at _ _ _ rfl]
  have hg1 : W.heap[w1.heap.size + 1]? = some (.cells #[.bool false, .bool true] 4 (0, 0)) := by rw [← hW, heap_at _ _ _ (by simp)]
  have Hb : Away (Below w.heap.size w W) := ⟨by rw [← hW]; exact (hb1.alloc hb1.size _).alloc (by have := hb1.size; simp; omega) _⟩
  have Hg0 := Away.mk hg0
  have Hg1 := Away.mk hg1
  rw [hW]
  clear hW hb1 hg0 hg1
  go_loopw [25] (fun i wr => (i = .int .i64 0 ∨ i = .int .i64 1 ∨ i = .int .i64 2) ∧ Away (Below W.heap.size W wr)) (fun i _ => 2 - (intOf i).toNat)
  case atStart => exact ⟨Or.inl rfl, ⟨Below.refl _ _⟩⟩
  case round =>
    obtain ⟨hi, Hbe⟩ := hrel
    have F0 : Away (wr.heap[w1.heap.size]? = some (.cells T 33 (0, 0))) := ⟨(Hbe.out.block _ (lt_of_row Hg0.out)).trans Hg0.out⟩
    have f1 := (Hbe.out.block _ (lt_of_row Hg1.out)).trans Hg1.out
    have c0 : wr.cell? ⟨w1.heap.size + 1, 0, none⟩ = some (.bool false) := (cell_of_row wr _ 0 _ _ (0, 0) f1).trans rfl
    have c1 : wr.cell? ⟨w1.heap.size + 1, 1, none⟩ = some (.bool true) := (cell_of_row wr _ 1 _ _ (0, 0) f1).trans rfl
    clear f1
    rcases hi with rfl | rfl | rfl
    · go_wp2_with (refine wpList_load_row rfl 33 _ rfl w1.heap.size rfl 33 T (0, 0) _ F0.out Try.underlying33 rfl (by rw [HTs.out]; exact sizeT) ?_)
      refine (HAf.out _).mono ?_
      rintro e w2 ⟨rfl, hb2⟩
      have G2 : Away (w2.heap[w1.heap.size]? = some (.cells T 33 (0, 0))) := ⟨(hb2.block _ (lt_of_row F0.out)).trans F0.out⟩
      have Hb2 : Away (Below W.heap.size W w2) := ⟨Hbe.out.trans (hb2.mono Hbe.out.size)⟩
      have hd : decide ((64 : Int) < (key.size : Int)) = true := by first | exact decide_eq_true (by omega) | exact decide_eq_false (by omega)
      clear hb2 c0 c1
      go_wp2_with fail
      refine region_quiet_ops (by kernel_rfl) (by kernel_rfl) (fun ops HO => ?_)
      quiet_step (skip)
      quiet_step (skip)
      quiet_step (skip)
      quiet_step (skip)
      quiet_step (skip)
      refine wpQuiet_want (by rw [← HO.out]; kernel_rfl) (fun K hK => ?_)
      go_simp
      refine hK _ ?_
      clear hK K
      refine wpQuiet_load (by rw [← HO.out]; kernel_rfl) 33 _ rfl _ rfl 33 _ _ (fun w' hC => heap_regrown G2.out hC) Try.underlying33 rfl (by rw [HTs.out]; exact sizeT) ?_
      refine wpQuiet_want (by rw [← HO.out]; kernel_rfl) (fun K hK => ?_)
      go_simp
      refine hK _ ?_
      clear hK K
      refine wpQuiet_load (by rw [← HO.out]; kernel_rfl) 33 _ rfl _ rfl 33 _ _ (fun w' hC => heap_regrown G2.out hC) Try.underlying33 rfl (by rw [HTs.out]; exact sizeT) ?_
      refine wpQuiet_want (by rw [← HO.out]; kernel_rfl) (fun K hK => ?_)
      go_simp
      refine hK _ ?_
      clear hK K
      refine wpQuiet_want (by rw [← HO.out]; kernel_rfl) (fun K hK => ?_)
      go_simp
      refine hK _ ?_
      clear hK K
      refine wpQuiet_want (by rw [← HO.out]; kernel_rfl) (fun K hK => ?_)
      go_simp
      apply Exists.intro
      refine ⟨fun _ => ?_, hK _ ?_⟩
      exact Calls.regrown_of (HKf.out _)
      clear hK K
      refine wpQuiet_want (by rw [← HO.out]; kernel_rfl) (fun K hK => ?_)
      go_simp
      refine hK _ ?_
      clear hK K
      refine wpQuiet_want (by rw [← HO.out]; kernel_rfl) (fun K hK => ?_)
      go_simp
      apply Exists.intro
      refine ⟨fun _ => ?_, hK _ ?_⟩
      exact Calls.regrown_of (HBf.out _)
      clear hK K
      refine wpQuiet_want (by rw [← HO.out]; kernel_rfl) (fun K hK => ?_)
      go_simp
      refine hK _ ?_
      clear hK K
      quiet_step (skip)
      refine wpQuiet_nil ?_
      intro w3 hC
      have hb3 : Below w2.heap.size w2 w3 := by
        obtain ⟨pp, rfl⟩ := hC
        exact below_regrown _ _ _
      have G3 : Away (w3.heap[w1.heap.size]? = some (.cells T 33 (0, 0))) := ⟨(hb3.block _ (lt_of_row G2.out)).trans G2.out⟩
      have Hb3 : Away (Below W.heap.size W w3) := ⟨Hb2.out.trans (hb3.mono Hb2.out.size)⟩
      clear hC hb3
      go_wp2_with fail
      go_roundw
      case rel => exact ⟨Or.inr (Or.inl (by go_num)), ⟨Hb3.out⟩⟩
      case measure => simp [intOf]
    · go_wp2_with (refine wpList_load_row rfl 33 _ rfl w1.heap.size rfl 33 T (0, 0) _ F0.out Try.underlying33 rfl (by rw [HTs.out]; exact sizeT) ?_)
      refine (HAt.out _).mono ?_
      rintro e w2 ⟨rfl, hb2⟩
      have G2 : Away (w2.heap[w1.heap.size]? = some (.cells T 33 (0, 0))) := ⟨(hb2.block _ (lt_of_row F0.out)).trans F0.out⟩
      have Hb2 : Away (Below W.heap.size W w2) := ⟨Hbe.out.trans (hb2.mono Hbe.out.size)⟩
      have hd : decide ((128 : Int) < (key.size : Int)) = true := by first | exact decide_eq_true (by omega) | exact decide_eq_false (by omega)
      clear hb2 c0 c1
      go_wp2_with fail
      refine region_quiet_ops (by kernel_rfl) (by kernel_rfl) (fun ops HO => ?_)
      quiet_step (skip)
      quiet_step (skip)
      quiet_step (skip)
      quiet_step (skip)
      quiet_step (skip)
      refine wpQuiet_want (by rw [← HO.out]; kernel_rfl) (fun K hK => ?_)
      go_simp
      refine hK _ ?_
      clear hK K
      refine wpQuiet_load (by rw [← HO.out]; kernel_rfl) 33 _ rfl _ rfl 33 _ _ (fun w' hC => heap_regrown G2.out hC) Try.underlying33 rfl (by rw [HTs.out]; exact sizeT) ?_
      refine wpQuiet_want (by rw [← HO.out]; kernel_rfl) (fun K hK => ?_)
      go_simp
      refine hK _ ?_
      clear hK K
      refine wpQuiet_load (by rw [← HO.out]; kernel_rfl) 33 _ rfl _ rfl 33 _ _ (fun w' hC => heap_regrown G2.out hC) Try.underlying33 rfl (by rw [HTs.out]; exact sizeT) ?_
      refine wpQuiet_want (by rw [← HO.out]; kernel_rfl) (fun K hK => ?_)
      go_simp
      refine hK _ ?_
      clear hK K
      refine wpQuiet_want (by rw [← HO.out]; kernel_rfl) (fun K hK => ?_)
      go_simp
      refine hK _ ?_
      clear hK K
      refine wpQuiet_want (by rw [← HO.out]; kernel_rfl) (fun K hK => ?_)
      go_simp
      apply Exists.intro
      refine ⟨fun _ => ?_, hK _ ?_⟩
      exact Calls.regrown_of (HKt.out _)
      clear hK K
      refine wpQuiet_want (by rw [← HO.out]; kernel_rfl) (fun K hK => ?_)
      go_simp
      refine hK _ ?_
      clear hK K
      refine wpQuiet_want (by rw [← HO.out]; kernel_rfl) (fun K hK => ?_)
      go_simp
      apply Exists.intro
      refine ⟨fun _ => ?_, hK _ ?_⟩
      exact Calls.regrown_of (HBt.out _)
      clear hK K
      refine wpQuiet_want (by rw [← HO.out]; kernel_rfl) (fun K hK => ?_)
      go_simp
      refine hK _ ?_
      clear hK K
      quiet_step (skip)
      refine wpQuiet_nil ?_
      intro w3 hC
      have hb3 : Below w2.heap.size w2 w3 := by
        obtain ⟨pp, rfl⟩ := hC
        exact below_regrown _ _ _
      have G3 : Away (w3.heap[w1.heap.size]? = some (.cells T 33 (0, 0))) := ⟨(hb3.block _ (lt_of_row G2.out)).trans G2.out⟩
      have Hb3 : Away (Below W.heap.size W w3) := ⟨Hb2.out.trans (hb3.mono Hb2.out.size)⟩
      clear hC hb3
      go_wp2_with fail
      go_roundw
      case rel => exact ⟨Or.inr (Or.inr (by go_num)), ⟨Hb3.out⟩⟩
      case measure => simp [intOf]
    · clear c0 c1
      go_wp2_with fail
      refine (awake4.live_any _).mono ?_
      rintro e w6 ⟨rfl, hb6⟩
      have Hb6 : Away (Below w.heap.size w w6) := ⟨Hb.out.trans ((Hbe.out.trans (hb6.mono Hbe.out.size)).mono Hb.out.size)⟩
      clear hb6
      go_wp2_with fail
      go_ret
      exact ⟨rfl, Hb6.out⟩
theorem walk (key s : ByteArray) (n : Int) (w : World) (w0 : key.size ≤ maxLen) (w1 : s.size ≤ maxLen) (w2 : (Lit.int .i64 n).wf = true) :
    Calls Try.prog 5 #[.string key, .string s, .int .i64 n] w fun e w' => e = .returned (.bool true) ∧ Below w.heap.size w w' := by
  by_cases h : 500 < key.size
  · exact far1 key s n w h
  by_cases h2 : 2000 < s.size
  · exact far2 key s n w (by omega) h2
  by_cases h3 : key.size ≤ 64
  · exact near_short key s n w (by omega) (by omega) h3 (by omega)
  by_cases h4 : key.size ≤ 128
  · exact near_mid key s n w (by omega) (by omega) (by omega) h4
  · exact near_long key s n w (by omega) (by omega) (by omega) (by omega)

/-! ### The row -/
set_option maxRecDepth 100000 in
theorem lifted (os : Os) (started : os.Started) (H : Type) (enc : TypeId × Value → H) :
    ReturnsInHanded {} Try.checked os 5 .any (Rows.macKeysSpec.pre6 enc Try.prog Try.f5 Rows.macKeysRow.domain false) (Rows.macKeysSpec.post enc Try.prog Try.f5 false true false false) := by
  refine returnsInHanded_of_change (C := Try.checked) own started (by kernel_rfl) Try.func5
    (ChangeSpec.witness6 (enc := enc) (C := Try.checked) false ⟨#[], #[.string ByteArray.empty, .string ByteArray.empty, .int .i64 0], []⟩ 8 (by kernel_rfl) (by kernel_rfl) (by kernel_rfl) (by kernel_rfl)) ?_
  intro W base args ds gs before hval0 hW hcnd _
  have hval : ∀ (j : Nat) t v, Try.f5.params[j]? = some t → args[j]? = some v → Value.okWide Try.prog W .any base t v := hval0
  have hW' := hW
  have hlt := hW.lt
  obtain ⟨p, q, hA0, hV, rfl, hfz, hnd⟩ := hW
  have hA : DataW.TrodAll enc Try.prog W 0 (fun _ => true) true Try.f5.params.toList args.toList ds p := hA0
  rw [Try.params5] at hA hval
  obtain ⟨v0, vs0, d0, ds0, p0, q0, hargs, rfl, rfl, h0, r0⟩ := trodAll_cons hA
  obtain ⟨v1, vs1, d1, ds1, p1, q1, rfl, rfl, rfl, h1, r1⟩ := trodAll_cons r0
  obtain ⟨v2, vs2, d2, ds2, p2, q2, rfl, rfl, rfl, h2, r2⟩ := trodAll_cons r1
  obtain ⟨rfl, rfl, rfl⟩ := trodAll_nil r2
  obtain rfl : args = #[v0, v1, v2] := by cases args; simp_all
  obtain ⟨rfl, rfl⟩ := trodVars_none hV
  obtain ⟨a0, rfl, rfl, rfl, w0⟩ := open_string Try.underlying9 (hval 0 9 v0 rfl rfl) h0
  obtain ⟨a1, rfl, rfl, rfl, w1⟩ := open_string Try.underlying9 (hval 1 9 v1 rfl rfl) h1
  obtain ⟨a2, rfl, rfl, rfl, w2⟩ := open_int Try.underlying3 (hval 2 3 v2 rfl rfl) h2
  clear hA0 hval0
  refine (walk a0 a1 a2 W w0 w1 w2).mono fun e W' ⟨he, bel⟩ => ?_
  subst he
  exact ⟨_, rfl, _, _, _, [], _, [], hW', trodAll_mk1 (shut_bool Try.underlying4 _), (trodAll_cons_mk (Below.trod laidOut (by kernel_rfl) (of_decide_eq_true (by kernel_rfl)) h0 bel (fun x hx => by first | exact absurd hx (by simp) | exact hlt x (by simpa using hx) | exact hlt x (by simp; exact Or.inl hx) | exact hlt x (by simp; exact Or.inr hx) | exact hlt x (by simp; exact Or.inr (Or.inl hx)) | exact hlt x (by simp; exact Or.inr (Or.inr hx)))) (trodAll_cons_mk (Below.trod laidOut (by kernel_rfl) (of_decide_eq_true (by kernel_rfl)) h1 bel (fun x hx => by first | exact absurd hx (by simp) | exact hlt x (by simpa using hx) | exact hlt x (by simp; exact Or.inl hx) | exact hlt x (by simp; exact Or.inr hx) | exact hlt x (by simp; exact Or.inr (Or.inl hx)) | exact hlt x (by simp; exact Or.inr (Or.inr hx)))) (trodAll_cons_mk (Below.trod laidOut (by kernel_rfl) (of_decide_eq_true (by kernel_rfl)) h2 bel (fun x hx => by first | exact absurd hx (by simp) | exact hlt x (by simpa using hx) | exact hlt x (by simp; exact Or.inl hx) | exact hlt x (by simp; exact Or.inr hx) | exact hlt x (by simp; exact Or.inr (Or.inl hx)) | exact hlt x (by simp; exact Or.inr (Or.inr hx)))) trodAll_mk0))), rfl, bel.frame _, fun h => by cases h⟩

theorem over : Rows.macKeysRow.holds Try.pinned (OpenSpec.ofChange Rows.macKeysSpec) :=
  OpenClaim.holds_of_wide 5 Try.f5 rfl rfl rfl rfl rfl rfl rfl ⟨rfl, rfl, rfl, rfl, rfl⟩ rfl rfl rfl rfl rfl (by kernel_rfl) Try.func5 (by kernel_rfl)
    (of_decide_eq_true (by kernel_rfl)) (by unfold Func.isWrapper; first | (rw [if_pos (by decide +kernel)]; kernel_rfl) | (rw [if_neg (by decide +kernel)]; exact ⟨rfl, rfl⟩))
    (fun os started H enc _ => lifted os started H enc)

theorem proved : Rows.MacKeysSaid :=
  over
end Go.Proofs.Ythfljfampfioaaa.lkeys
