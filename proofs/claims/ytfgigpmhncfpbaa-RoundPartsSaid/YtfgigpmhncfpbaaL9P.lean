/-
  The statement RoundParts (P9.8): the parts of each coefficient, put together, are congruent to it, and the low part is small, for every polynomial and both gaps. Conditions: none.
-/
import Derived.Test.YtfgigpmhncfpbaaRows
import Derived.Test.YtfgigpmhncfpbaaAw9
import Derived.Test.YtfgigpmhncfpbaaRLo
import Derived.ProofKit
import Derived.OpenShut
import Derived.Carry
namespace Go.Proofs.Ytfgigpmhncfpbaa.l9p
open Go.ChangeShapes Go.WideShapes Go.ChangeAt Go.RowKit
open Go.Proofs.Ytfgigpmhncfpbaa.arr Go.Proofs.Ytfgigpmhncfpbaa.mem Go.Proofs.Ytfgigpmhncfpbaa.stil Go.Proofs.Ytfgigpmhncfpbaa.polys Go.Proofs.Ytfgigpmhncfpbaa.polt Go.Proofs.Ytfgigpmhncfpbaa.fldm Go.Proofs.Ytfgigpmhncfpbaa.fld1 Go.Proofs.Ytfgigpmhncfpbaa.rndm Go.Proofs.Ytfgigpmhncfpbaa.vary Go.Proofs.Ytfgigpmhncfpbaa.varyn Go.Proofs.Ytfgigpmhncfpbaa.varye Go.Proofs.Ytfgigpmhncfpbaa.pvar
set_option linter.unusedVariables false
theorem own : ownKnob Try.prog.godebug = none := by kernel_rfl
theorem laidOut : laidOutB Try.prog = true := by kernel_rfl


theorem region_still_ops {P : Program} {id : Nat} {Q : Exit → Act → World → Prop} {a : Act} {w : World} {l : List Oper} (hm : P.follows .mixedOrders = true) (hB : Region.lexB .any l.toArray = true)
    (h : ∀ ops : Array Oper, Away (l.toArray = ops) → wpStill P ops w.drew (fun a' => Q .normal a' w.drew) l a) : (Code.region id l.toArray true).wp P Q a w := still_all hm hB (h _ ⟨rfl⟩)
theorem wpStill_want {P : Program} {ops : Array Oper} {w : World} {Q : Act → Prop} {rest : List Oper} {o : Oper} {a : Act} (hw : Region.wanted o (yielded ops a.tmps) = true)
    (h : ∀ K : Act → Prop, (∀ a, wpStill P ops w Q rest a → K a) → o.still P a w K) : wpStill P ops w Q (o :: rest) a :=
  wpStill_step fun K hK => by rw [if_pos hw]; exact h K hK
set_option maxRecDepth 100000 in
set_option maxHeartbeats 4000000 in
theorem walk_false (f : Nat → Int) (w : World) :
    Calls Try.prog 4 #[.agg (FL .i64 256 f), .bool false] w fun e w' => e = .returned (.bool true) ∧ Below w.heap.size w w' := by
  obtain ⟨hz, hsize⟩ := zero_of_info infoP
  obtain ⟨z, HZ⟩ := ex_eq (FL .i64 256 fun _ => 0)
  rw [HZ.out] at hz
  have Hzs : Away (z.size = 256) := ⟨by rw [← HZ.out]; exact fl_size _ _ _⟩
  have sz : ∀ h : Nat → Int, (Try.prog.info? 30).map (·.size) = some (FL .i64 256 h).size := fun h => by rw [fl_size]; exact hsize
  obtain ⟨I, HI⟩ := ex_eq (FL .i64 256 f)
  have Ii : Away ((Try.prog.info? 30).map (·.size) = some I.size) := ⟨by rw [← HI.out]; exact sz _⟩
  obtain ⟨A, HA⟩ := ex_eq (FL .i64 256 fun i => sh (f i))
  have Ai : Away ((Try.prog.info? 30).map (·.size) = some A.size) := ⟨by rw [← HA.out]; exact sz _⟩
  have Ao : Away (A.all (·.oneCell') = true) := ⟨by rw [← HA.out]; exact fl_one _ _ _⟩
  have Az : Away (z.size = A.size) := ⟨by rw [Hzs.out, ← HA.out, fl_size]⟩
  obtain ⟨B, HB⟩ := ex_eq (FL .i64 256 fun i => sl (f i) % 8380417)
  have Bi : Away ((Try.prog.info? 30).map (·.size) = some B.size) := ⟨by rw [← HB.out]; exact sz _⟩
  have Bo : Away (B.all (·.oneCell') = true) := ⟨by rw [← HB.out]; exact fl_one _ _ _⟩
  have Bz : Away (z.size = B.size) := ⟨by rw [Hzs.out, ← HB.out, fl_size]⟩
  obtain ⟨p, HP⟩ : ∃ p : Nat → Int, Away (p = fun i => hgh 95232 (f i)) := ⟨_, ⟨rfl⟩⟩
  obtain ⟨q, HQ⟩ : ∃ q : Nat → Int, Away (q = fun i => lw 95232 (f i) % 8380417) := ⟨_, ⟨rfl⟩⟩
  have Hpi : Away (∀ i, p i = hgh 95232 (f i)) := ⟨fun i => by rw [HP.out]⟩
  have Hqi : Away (∀ i, q i = lw 95232 (f i) % 8380417) := ⟨fun i => by rw [HQ.out]⟩
  have H1 : Away (∀ w1 : World, Calls Try.prog 9 #[.agg I] w1 fun e w' => e = .returned (.tuple #[.agg A, .agg B]) ∧ Below w1.heap.size w1 w') := ⟨fun w1 => by rw [← HI.out, ← HA.out, ← HB.out]; exact rsplit.split_any _ w1⟩
  have H2 : Away (∀ w1 : World, Calls Try.prog 10 #[.agg I, .int .i64 95232] w1 fun e w' => e = .returned (.agg (FL .i64 256 p)) ∧ Below w1.heap.size w1 w') := ⟨fun w1 => by rw [← HI.out, HP.out]; exact rhigh.high_any _ _ w1⟩
  have H3 : Away (∀ w1 : World, Calls Try.prog 11 #[.agg I, .int .i64 95232] w1 fun e w' => e = .returned (.agg (FL .i64 256 q)) ∧ Below w1.heap.size w1 w') := ⟨fun w1 => by rw [← HI.out, HQ.out]; exact rlow.low_any _ _ w1⟩
  have Hred := Away.mk reduce_any
  have Hcen := Away.mk centre_any
  have Ha := Away.mk (fun w1 : World => awake9.awake_any w1)
  rw [HI.out]
  clear hsize sz HP HQ
  go_enter Try.func4, Try.ntmps4
  go_wp2_with fail
  obtain ⟨W0, hW0⟩ : ∃ x, w.alloc (.cells I 30) = x := ⟨_, rfl⟩
  obtain ⟨r0, hs0, hB0⟩ := one hW0
  rw [hW0]
  refine wp_load_row 30 _ rfl w.heap.size rfl 30 I (0, 0) _ r0 Try.underlying30 rfl Ii.out ?_
  have R0 := Away.mk r0
  have HB0 := Away.mk hB0
  clear hW0 r0 hs0 hB0
  go_wp2_with fail
  refine (H1.out _).mono ?_
  rintro e w1 ⟨rfl, hb1⟩
  have F0 : Away (w1.heap[w.heap.size]? = some (.cells I 30 (0, 0))) := ⟨(hb1.block _ (lt_of_row R0.out)).trans R0.out⟩
  have FB : Away (Below w.heap.size w w1) := ⟨HB0.out.trans (hb1.mono HB0.out.size)⟩
  clear hb1 R0 HB0
  obtain ⟨W, hW⟩ : ∃ x, (w1.alloc (.cells z 30)).alloc (.cells z 30) = x := ⟨_, rfl⟩
  obtain ⟨k0, k1, kS, kB⟩ := two hW
  have HW := Away.mk hW
  have E0 : Away (W.heap[w1.heap.size]? = some (.cells z 30 (0, 0))) := ⟨k0⟩
  have E1 : Away ((W.setRow w1.heap.size A).heap[w1.heap.size + 1]? = some (.cells z 30 (0, 0))) := ⟨(setRow_other _ _ _ _ (by omega)).trans k1⟩
  obtain ⟨V, hV⟩ : ∃ x, (W.setRow w1.heap.size A).setRow (w1.heap.size + 1) B = x := ⟨_, rfl⟩
  have l0 := lt_of_row F0.out
  have VP : Away (V.heap[w.heap.size]? = some (.cells I 30 (0, 0))) := ⟨by rw [← hV]; exact (setRow_other _ _ _ _ (by omega)).trans ((setRow_other _ _ _ _ (by omega)).trans ((kB.block _ l0).trans F0.out))⟩
  have V0 : Away (V.heap[w1.heap.size]? = some (.cells (FL .i64 256 fun i => sh (f i)) 30 (0, 0))) := ⟨by rw [HA.out, ← hV]; exact (setRow_other _ _ _ _ (by omega)).trans (setRow_heap _ _ _ _ _ _ E0.out)⟩
  have V1 : Away (V.heap[w1.heap.size + 1]? = some (.cells (FL .i64 256 fun i => sl (f i) % 8380417) 30 (0, 0))) := ⟨by rw [HB.out, ← hV]; exact setRow_heap _ _ _ _ _ _ E1.out⟩
  have VB : Away (Below w.heap.size w V) := ⟨by rw [← hV]; exact ((FB.out.trans (kB.mono FB.out.size)).trans (below_setRow _ _ _ FB.out.size)).trans (below_setRow _ _ _ (Nat.le_succ_of_le FB.out.size))⟩
  have HV := Away.mk hV
  clear hW hV k0 k1 kS kB l0
  go_wp2_with (first
    | (rw [HW.out])
    | (refine wpList_store_row rfl 30 _ _ rfl w1.heap.size A rfl rfl 30 _ E0.out Ai.out Az.out Ao.out ?_)
    | (refine wpList_store_row rfl 30 _ _ rfl (w1.heap.size + 1) B rfl rfl 30 _ E1.out Bi.out Bz.out Bo.out ?_))
  rw [HV.out]
  clear HV E0 E1 HW F0 FB hz
  refine region_vary_take [vrP 6 8 2 8 21, vrP 7 9 5 9 24] 6 (by kernel_rfl) (by kernel_rfl) (by kernel_rfl) (by kernel_rfl) (by decide) (fun v hv ρ o w1 ho => by
    simp only [List.mem_cons, List.not_mem_nil, or_false] at hv
    rcases hv with rfl | rfl <;> exact allocP ρ o w1 ho) (by simp [vrP, Act.put]) (fun ops HO => ?_)
  simp only [List.take_succ_cons, List.take_zero]
  refine wpMild_load rfl 30 _ rfl _ rfl 30 _ _ (fun w9 hw9 => (hw9.block _ (lt_of_row VP.out)).trans VP.out) Try.underlying30 rfl Ii.out ?_
  refine wpMild_step rfl (fun K hK => ?_)
  go_simp
  apply Exists.intro
  refine ⟨fun w9 hw9 => rfl, hK _ ?_⟩
  clear hK K
  refine wpMild_step rfl (fun K hK => ?_)
  go_simp
  apply Exists.intro
  refine ⟨fun w9 hw9 => ?_, hK _ ?_⟩
  exact H2.out w9
  clear hK K
  refine wpMild_load rfl 30 _ rfl _ rfl 30 _ _ (fun w9 hw9 => (hw9.block _ (lt_of_row VP.out)).trans VP.out) Try.underlying30 rfl Ii.out ?_
  refine wpMild_step rfl (fun K hK => ?_)
  go_simp
  apply Exists.intro
  refine ⟨fun w9 hw9 => rfl, hK _ ?_⟩
  clear hK K
  refine wpMild_step rfl (fun K hK => ?_)
  go_simp
  apply Exists.intro
  refine ⟨fun w9 hw9 => ?_, hK _ ?_⟩
  exact H3.out w9
  clear hK K
  refine ends2 (FL .i64 256 p) (FL .i64 256 q) rfl (fitsP p) rfl (fitsP q) (by decide) (fun p1 p2 w6 l1 l2 n12 hb6 r1 r2 => ?_)
  simp only [vrP, Act.put, List.setIfInBounds_toArray, List.set_cons_zero, List.set_cons_succ] at r1 r2 ⊢
  have X2 := Away.mk r1
  have X3 := Away.mk r2
  have XP : Away (w6.heap[w.heap.size]? = some (.cells (FL .i64 256 f) 30 (0, 0))) := ⟨by rw [HI.out]; exact (hb6.block _ (lt_of_row VP.out)).trans VP.out⟩
  have X0 : Away (w6.heap[w1.heap.size]? = some (.cells (FL .i64 256 fun i => sh (f i)) 30 (0, 0))) := ⟨(hb6.block _ (lt_of_row V0.out)).trans V0.out⟩
  have X1 : Away (w6.heap[w1.heap.size + 1]? = some (.cells (FL .i64 256 fun i => sl (f i) % 8380417) 30 (0, 0))) := ⟨(hb6.block _ (lt_of_row V1.out)).trans V1.out⟩
  have XB : Away (Below w.heap.size w w6) := ⟨VB.out.trans (hb6.mono VB.out.size)⟩
  clear r1 r2 hb6 l1 l2 n12 VP V0 V1 VB H1 H2 H3 HO HA HB HI
  go_wp2_with fail
  go_loopw [25] (fun v wr => ∃ i : Nat, i ≤ 256 ∧ v = .int .i64 (i : Int) ∧ Away (Below w6.heap.size w6 wr)) (fun v _ => 256 - (intOf v).toNat)
  case atStart => exact ⟨0, Nat.zero_le _, rfl, ⟨Below.refl _ _⟩⟩
  case round =>
    obtain ⟨i, hi, rfl, A0⟩ := hrel
    by_cases hlt : i < 256
    · have hiz : (i : Int) < 256 := by omega
      obtain ⟨x, hx⟩ : ∃ x, f i = x := ⟨_, rfl⟩
      have hs := split_is x
      have hb := sl_bound x
      have hp := rndm.parts_95232 x
      have c0 : wr.cell? ⟨w1.heap.size, i, none⟩ = some (.int .i64 (sh x)) := by rw [← hx]; exact fl_at ((A0.out.block _ (lt_of_row X0.out)).trans X0.out) i hlt
      have c1 : wr.cell? ⟨w1.heap.size + 1, i, none⟩ = some (.int .i64 (sl x % 8380417)) := by rw [← hx]; exact fl_at ((A0.out.block _ (lt_of_row X1.out)).trans X1.out) i hlt
      have c2 : wr.cell? ⟨p1, i, none⟩ = some (.int .i64 (hgh 95232 x)) := by rw [← hx, ← Hpi.out]; exact fl_at ((A0.out.block _ (lt_of_row X2.out)).trans X2.out) i hlt
      have c3 : wr.cell? ⟨p2, i, none⟩ = some (.int .i64 (lw 95232 x % 8380417)) := by rw [← hx, ← Hqi.out]; exact fl_at ((A0.out.block _ (lt_of_row X3.out)).trans X3.out) i hlt
      have c4 : wr.cell? ⟨w.heap.size, i, none⟩ = some (.int .i64 x) := by rw [← hx]; exact fl_at ((A0.out.block _ (lt_of_row XP.out)).trans XP.out) i hlt
      have Hc1 := Away.mk (Hcen.out (sl x % 8380417) 8380417)
      rw [ce_back (sl x) (by omega) (by omega)] at Hc1
      have Hc2 := Away.mk (Hcen.out (lw 95232 x % 8380417) 8380417)
      rw [ce_back (lw 95232 x) (by omega) (by omega)] at Hc2
      obtain ⟨b1, hb1⟩ := ex_eq (sl x % 8380417)
      obtain ⟨b2, hb2⟩ := ex_eq (lw 95232 x % 8380417)
      rw [hb1.out] at Hc1 c1
      rw [hb2.out] at Hc2 c3
      clear hb1 hb2
      have Hx := Away.mk (Hred.out x)
      obtain ⟨r, hr⟩ := ex_eq (x % 8380417)
      rw [hr.out] at Hx hs hb hp
      obtain ⟨u, hu⟩ := ex_eq (sh x)
      obtain ⟨l, hl⟩ := ex_eq (sl x)
      obtain ⟨h0, hh0⟩ := ex_eq (hgh 95232 x)
      obtain ⟨l0, hl0⟩ := ex_eq (lw 95232 x)
      rw [hu.out, hl.out] at hs
      rw [hl.out] at hb Hc1
      rw [hu.out] at c0
      rw [hh0.out, hl0.out] at hp
      rw [hh0.out] at c2
      rw [hl0.out] at Hc2
      obtain ⟨u2, hu2⟩ : ∃ n, u * 8192 = n := ⟨_, rfl⟩
      have f1 : IntKind.i64.wrap (u * 8192) = u2 := by rw [IntKind.wrap_i64]; omega
      have f1b : IntKind.i64.wrap (u * 2 ^ 13) = u2 := by rw [IntKind.wrap_i64]; omega
      obtain ⟨n1, hn1⟩ : ∃ n, u2 + l = n := ⟨_, rfl⟩
      have f2 : IntKind.i64.wrap (u2 + l) = n1 := by rw [IntKind.wrap_i64]; omega
      have Hn1 : Away (∀ w1 : World, Calls Try.prog 13 #[.int .i64 n1] w1 fun e w' => e = .returned (.int .i64 r) ∧ w' = w1) := ⟨fun w1 => by have h := Hred.out n1 w1; rw [← hn1, ← hu2, hs.2.2] at h; rw [← hn1, ← hu2]; exact h⟩
      obtain ⟨h2, hh2⟩ : ∃ n, h0 * 2 = n := ⟨_, rfl⟩
      have f3 : IntKind.i64.wrap (h0 * 2) = h2 := by rw [IntKind.wrap_i64]; omega
      obtain ⟨h3, hh3⟩ : ∃ n, h2 * 95232 = n := ⟨_, rfl⟩
      have f4 : IntKind.i64.wrap (h2 * 95232) = h3 := by rw [IntKind.wrap_i64]; omega
      obtain ⟨n2, hn2⟩ : ∃ n, h3 + l0 = n := ⟨_, rfl⟩
      have f5 : IntKind.i64.wrap (h3 + l0) = n2 := by rw [IntKind.wrap_i64]; omega
      have Hn2 : Away (∀ w1 : World, Calls Try.prog 13 #[.int .i64 n2] w1 fun e w' => e = .returned (.int .i64 r) ∧ w' = w1) := ⟨fun w1 => by
        have h := Hred.out n2 w1
        rw [show n2 % 8380417 = r by rw [← hp.2.2.2.2]; congr 1; omega] at h
        exact h⟩
      have f6 : IntKind.i64.wrap 190464 = 190464 := by rw [IntKind.wrap_i64]; omega
      have f7 : IntKind.i64.wrap (Int.tdiv 8380416 190464) = 44 := by decide
      have f8 : IntKind.i64.wrap 44 = 44 := by rw [IntKind.wrap_i64]; omega
      have f9 : IntKind.i64.wrap (-95232) = -95232 := by rw [IntKind.wrap_i64]; omega
      have q1 : decide (4096 < l) = false := decide_eq_false (by omega)
      have q2 : decide (l ≤ -4096) = false := decide_eq_false (by omega)
      have q3 : decide (u < 0) = false := decide_eq_false (by omega)
      have q4 : decide (1023 < u) = false := decide_eq_false (by omega)
      have q5 : decide (95232 < l0) = false := decide_eq_false (by omega)
      have q6 : decide (l0 < -95232) = false := decide_eq_false (by omega)
      have q7 : decide (h0 < 0) = false := decide_eq_false (by omega)
      have q8 : decide (44 ≤ h0) = false := decide_eq_false (by omega)
      clear hs hb hp hu2 hn1 hh2 hh3 hn2 hr hu hl hh0 hl0 hx
      go_wp2_with fail
      refine still_all (by kernel_rfl) (by kernel_rfl) ?_
      repeat still_step
      still_call (Hc1.out _)
      repeat still_step
      still_call (Hc2.out _)
      repeat still_step
      refine wpStill_nil ?_
      go_wp2_with fail
      refine region_still_ops (by kernel_rfl) (by kernel_rfl) (fun ops HO => ?_)
      still_step
      still_step
      still_step
      still_step
      still_step
      still_step
      still_call (Hn1.out _)
      still_step
      still_step
      still_step
      still_call (Hx.out _)
      still_step
      still_step
      refine wpStill_want (by rw [← HO.out]; kernel_rfl) (fun K hK => ?_)
      go_simp
      refine hK _ ?_
      clear hK K
      refine wpStill_want (by rw [← HO.out]; kernel_rfl) (fun K hK => ?_)
      go_simp
      refine hK _ ?_
      clear hK K
      still_step
      still_step
      refine wpStill_want (by rw [← HO.out]; kernel_rfl) (fun K hK => ?_)
      go_simp
      refine hK _ ?_
      clear hK K
      refine wpStill_want (by rw [← HO.out]; kernel_rfl) (fun K hK => ?_)
      go_simp
      refine hK _ ?_
      clear hK K
      still_step
      still_step
      refine wpStill_want (by rw [← HO.out]; kernel_rfl) (fun K hK => ?_)
      go_simp
      refine hK _ ?_
      clear hK K
      refine wpStill_want (by rw [← HO.out]; kernel_rfl) (fun K hK => ?_)
      go_simp
      refine hK _ ?_
      clear hK K
      refine wpStill_want (by rw [← HO.out]; kernel_rfl) (fun K hK => ?_)
      go_simp
      refine hK _ ?_
      clear hK K
      refine wpStill_want (by rw [← HO.out]; kernel_rfl) (fun K hK => ?_)
      go_simp
      refine hK _ ?_
      clear hK K
      still_step
      still_step
      refine wpStill_want (by rw [← HO.out]; kernel_rfl) (fun K hK => ?_)
      go_simp
      refine hK _ ?_
      clear hK K
      refine wpStill_want (by rw [← HO.out]; kernel_rfl) (fun K hK => ?_)
      go_simp
      refine hK _ ?_
      clear hK K
      refine wpStill_want (by rw [← HO.out]; kernel_rfl) (fun K hK => ?_)
      go_simp
      refine hK _ ?_
      clear hK K
      refine wpStill_want (by rw [← HO.out]; kernel_rfl) (fun K hK => ?_)
      go_simp
      refine hK _ ?_
      clear hK K
      still_step
      refine wpStill_nil ?_
      clear HO
      go_wp2_with fail
      refine region_still_ops (by kernel_rfl) (by kernel_rfl) (fun ops HO => ?_)
      still_step
      still_step
      still_step
      still_step
      still_step
      still_step
      still_step
      still_step
      still_call (Hn2.out _)
      still_step
      still_step
      still_step
      still_call (Hx.out _)
      still_step
      still_step
      refine wpStill_want (by rw [← HO.out]; kernel_rfl) (fun K hK => ?_)
      go_simp
      refine hK _ ?_
      clear hK K
      refine wpStill_want (by rw [← HO.out]; kernel_rfl) (fun K hK => ?_)
      go_simp
      refine hK _ ?_
      clear hK K
      refine wpStill_want (by rw [← HO.out]; kernel_rfl) (fun K hK => ?_)
      go_simp
      refine hK _ ?_
      clear hK K
      still_step
      still_step
      refine wpStill_want (by rw [← HO.out]; kernel_rfl) (fun K hK => ?_)
      go_simp
      refine hK _ ?_
      clear hK K
      refine wpStill_want (by rw [← HO.out]; kernel_rfl) (fun K hK => ?_)
      go_simp
      refine hK _ ?_
      clear hK K
      refine wpStill_want (by rw [← HO.out]; kernel_rfl) (fun K hK => ?_)
      go_simp
      refine hK _ ?_
      clear hK K
      refine wpStill_want (by rw [← HO.out]; kernel_rfl) (fun K hK => ?_)
      go_simp
      refine hK _ ?_
      clear hK K
      still_step
      still_step
      refine wpStill_want (by rw [← HO.out]; kernel_rfl) (fun K hK => ?_)
      go_simp
      refine hK _ ?_
      clear hK K
      refine wpStill_want (by rw [← HO.out]; kernel_rfl) (fun K hK => ?_)
      go_simp
      refine hK _ ?_
      clear hK K
      refine wpStill_want (by rw [← HO.out]; kernel_rfl) (fun K hK => ?_)
      go_simp
      refine hK _ ?_
      clear hK K
      refine wpStill_want (by rw [← HO.out]; kernel_rfl) (fun K hK => ?_)
      go_simp
      refine hK _ ?_
      clear hK K
      still_step
      still_step
      refine wpStill_want (by rw [← HO.out]; kernel_rfl) (fun K hK => ?_)
      go_simp
      refine hK _ ?_
      clear hK K
      refine wpStill_want (by rw [← HO.out]; kernel_rfl) (fun K hK => ?_)
      go_simp
      refine hK _ ?_
      clear hK K
      refine wpStill_want (by rw [← HO.out]; kernel_rfl) (fun K hK => ?_)
      go_simp
      refine hK _ ?_
      clear hK K
      refine wpStill_want (by rw [← HO.out]; kernel_rfl) (fun K hK => ?_)
      go_simp
      refine hK _ ?_
      clear hK K
      refine wpStill_want (by rw [← HO.out]; kernel_rfl) (fun K hK => ?_)
      go_simp
      refine hK _ ?_
      clear hK K
      refine wpStill_want (by rw [← HO.out]; kernel_rfl) (fun K hK => ?_)
      go_simp
      refine hK _ ?_
      clear hK K
      refine wpStill_want (by rw [← HO.out]; kernel_rfl) (fun K hK => ?_)
      go_simp
      refine hK _ ?_
      clear hK K
      still_step
      refine wpStill_nil ?_
      clear HO c0 c1 c2 c3 c4
      go_wp2_with fail
      go_roundw
      case rel => exact ⟨i + 1, by omega, by go_num, ⟨((A0.out.drew).drew).drew⟩⟩
      case measure => simp [intOf]; omega
    · obtain rfl : i = 256 := by omega
      simp only [Int.cast_ofNat_Int]
      have HB4 : Away (Below w.heap.size w wr) := ⟨XB.out.trans (A0.out.mono XB.out.size)⟩
      clear A0
      go_wp2_with fail
      refine (Ha.out _).mono ?_
      rintro e w7 ⟨rfl, hb7⟩
      go_wp2_with fail
      go_ret
      exact ⟨rfl, HB4.out.trans (hb7.mono HB4.out.size)⟩
set_option maxRecDepth 100000 in
set_option maxHeartbeats 4000000 in
theorem walk_true (f : Nat → Int) (w : World) :
    Calls Try.prog 4 #[.agg (FL .i64 256 f), .bool true] w fun e w' => e = .returned (.bool true) ∧ Below w.heap.size w w' := by
  obtain ⟨hz, hsize⟩ := zero_of_info infoP
  obtain ⟨z, HZ⟩ := ex_eq (FL .i64 256 fun _ => 0)
  rw [HZ.out] at hz
  have Hzs : Away (z.size = 256) := ⟨by rw [← HZ.out]; exact fl_size _ _ _⟩
  have sz : ∀ h : Nat → Int, (Try.prog.info? 30).map (·.size) = some (FL .i64 256 h).size := fun h => by rw [fl_size]; exact hsize
  obtain ⟨I, HI⟩ := ex_eq (FL .i64 256 f)
  have Ii : Away ((Try.prog.info? 30).map (·.size) = some I.size) := ⟨by rw [← HI.out]; exact sz _⟩
  obtain ⟨A, HA⟩ := ex_eq (FL .i64 256 fun i => sh (f i))
  have Ai : Away ((Try.prog.info? 30).map (·.size) = some A.size) := ⟨by rw [← HA.out]; exact sz _⟩
  have Ao : Away (A.all (·.oneCell') = true) := ⟨by rw [← HA.out]; exact fl_one _ _ _⟩
  have Az : Away (z.size = A.size) := ⟨by rw [Hzs.out, ← HA.out, fl_size]⟩
  obtain ⟨B, HB⟩ := ex_eq (FL .i64 256 fun i => sl (f i) % 8380417)
  have Bi : Away ((Try.prog.info? 30).map (·.size) = some B.size) := ⟨by rw [← HB.out]; exact sz _⟩
  have Bo : Away (B.all (·.oneCell') = true) := ⟨by rw [← HB.out]; exact fl_one _ _ _⟩
  have Bz : Away (z.size = B.size) := ⟨by rw [Hzs.out, ← HB.out, fl_size]⟩
  obtain ⟨p, HP⟩ : ∃ p : Nat → Int, Away (p = fun i => hgh 261888 (f i)) := ⟨_, ⟨rfl⟩⟩
  obtain ⟨q, HQ⟩ : ∃ q : Nat → Int, Away (q = fun i => lw 261888 (f i) % 8380417) := ⟨_, ⟨rfl⟩⟩
  have Hpi : Away (∀ i, p i = hgh 261888 (f i)) := ⟨fun i => by rw [HP.out]⟩
  have Hqi : Away (∀ i, q i = lw 261888 (f i) % 8380417) := ⟨fun i => by rw [HQ.out]⟩
  have H1 : Away (∀ w1 : World, Calls Try.prog 9 #[.agg I] w1 fun e w' => e = .returned (.tuple #[.agg A, .agg B]) ∧ Below w1.heap.size w1 w') := ⟨fun w1 => by rw [← HI.out, ← HA.out, ← HB.out]; exact rsplit.split_any _ w1⟩
  have H2 : Away (∀ w1 : World, Calls Try.prog 10 #[.agg I, .int .i64 261888] w1 fun e w' => e = .returned (.agg (FL .i64 256 p)) ∧ Below w1.heap.size w1 w') := ⟨fun w1 => by rw [← HI.out, HP.out]; exact rhigh.high_any _ _ w1⟩
  have H3 : Away (∀ w1 : World, Calls Try.prog 11 #[.agg I, .int .i64 261888] w1 fun e w' => e = .returned (.agg (FL .i64 256 q)) ∧ Below w1.heap.size w1 w') := ⟨fun w1 => by rw [← HI.out, HQ.out]; exact rlow.low_any _ _ w1⟩
  have Hred := Away.mk reduce_any
  have Hcen := Away.mk centre_any
  have Ha := Away.mk (fun w1 : World => awake9.awake_any w1)
  rw [HI.out]
  clear hsize sz HP HQ
  go_enter Try.func4, Try.ntmps4
  go_wp2_with fail
  obtain ⟨W0, hW0⟩ : ∃ x, w.alloc (.cells I 30) = x := ⟨_, rfl⟩
  obtain ⟨r0, hs0, hB0⟩ := one hW0
  rw [hW0]
  refine wp_load_row 30 _ rfl w.heap.size rfl 30 I (0, 0) _ r0 Try.underlying30 rfl Ii.out ?_
  have R0 := Away.mk r0
  have HB0 := Away.mk hB0
  clear hW0 r0 hs0 hB0
  go_wp2_with fail
  refine (H1.out _).mono ?_
  rintro e w1 ⟨rfl, hb1⟩
  have F0 : Away (w1.heap[w.heap.size]? = some (.cells I 30 (0, 0))) := ⟨(hb1.block _ (lt_of_row R0.out)).trans R0.out⟩
  have FB : Away (Below w.heap.size w w1) := ⟨HB0.out.trans (hb1.mono HB0.out.size)⟩
  clear hb1 R0 HB0
  obtain ⟨W, hW⟩ : ∃ x, (w1.alloc (.cells z 30)).alloc (.cells z 30) = x := ⟨_, rfl⟩
  obtain ⟨k0, k1, kS, kB⟩ := two hW
  have HW := Away.mk hW
  have E0 : Away (W.heap[w1.heap.size]? = some (.cells z 30 (0, 0))) := ⟨k0⟩
  have E1 : Away ((W.setRow w1.heap.size A).heap[w1.heap.size + 1]? = some (.cells z 30 (0, 0))) := ⟨(setRow_other _ _ _ _ (by omega)).trans k1⟩
  obtain ⟨V, hV⟩ : ∃ x, (W.setRow w1.heap.size A).setRow (w1.heap.size + 1) B = x := ⟨_, rfl⟩
  have l0 := lt_of_row F0.out
  have VP : Away (V.heap[w.heap.size]? = some (.cells I 30 (0, 0))) := ⟨by rw [← hV]; exact (setRow_other _ _ _ _ (by omega)).trans ((setRow_other _ _ _ _ (by omega)).trans ((kB.block _ l0).trans F0.out))⟩
  have V0 : Away (V.heap[w1.heap.size]? = some (.cells (FL .i64 256 fun i => sh (f i)) 30 (0, 0))) := ⟨by rw [HA.out, ← hV]; exact (setRow_other _ _ _ _ (by omega)).trans (setRow_heap _ _ _ _ _ _ E0.out)⟩
  have V1 : Away (V.heap[w1.heap.size + 1]? = some (.cells (FL .i64 256 fun i => sl (f i) % 8380417) 30 (0, 0))) := ⟨by rw [HB.out, ← hV]; exact setRow_heap _ _ _ _ _ _ E1.out⟩
  have VB : Away (Below w.heap.size w V) := ⟨by rw [← hV]; exact ((FB.out.trans (kB.mono FB.out.size)).trans (below_setRow _ _ _ FB.out.size)).trans (below_setRow _ _ _ (Nat.le_succ_of_le FB.out.size))⟩
  have HV := Away.mk hV
  clear hW hV k0 k1 kS kB l0
  go_wp2_with (first
    | (rw [HW.out])
    | (refine wpList_store_row rfl 30 _ _ rfl w1.heap.size A rfl rfl 30 _ E0.out Ai.out Az.out Ao.out ?_)
    | (refine wpList_store_row rfl 30 _ _ rfl (w1.heap.size + 1) B rfl rfl 30 _ E1.out Bi.out Bz.out Bo.out ?_))
  rw [HV.out]
  clear HV E0 E1 HW F0 FB hz
  refine region_vary_take [vrP 6 8 2 8 21, vrP 7 9 5 9 24] 6 (by kernel_rfl) (by kernel_rfl) (by kernel_rfl) (by kernel_rfl) (by decide) (fun v hv ρ o w1 ho => by
    simp only [List.mem_cons, List.not_mem_nil, or_false] at hv
    rcases hv with rfl | rfl <;> exact allocP ρ o w1 ho) (by simp [vrP, Act.put]) (fun ops HO => ?_)
  simp only [List.take_succ_cons, List.take_zero]
  refine wpMild_load rfl 30 _ rfl _ rfl 30 _ _ (fun w9 hw9 => (hw9.block _ (lt_of_row VP.out)).trans VP.out) Try.underlying30 rfl Ii.out ?_
  refine wpMild_step rfl (fun K hK => ?_)
  go_simp
  apply Exists.intro
  refine ⟨fun w9 hw9 => rfl, hK _ ?_⟩
  clear hK K
  refine wpMild_step rfl (fun K hK => ?_)
  go_simp
  apply Exists.intro
  refine ⟨fun w9 hw9 => ?_, hK _ ?_⟩
  exact H2.out w9
  clear hK K
  refine wpMild_load rfl 30 _ rfl _ rfl 30 _ _ (fun w9 hw9 => (hw9.block _ (lt_of_row VP.out)).trans VP.out) Try.underlying30 rfl Ii.out ?_
  refine wpMild_step rfl (fun K hK => ?_)
  go_simp
  apply Exists.intro
  refine ⟨fun w9 hw9 => rfl, hK _ ?_⟩
  clear hK K
  refine wpMild_step rfl (fun K hK => ?_)
  go_simp
  apply Exists.intro
  refine ⟨fun w9 hw9 => ?_, hK _ ?_⟩
  exact H3.out w9
  clear hK K
  refine ends2 (FL .i64 256 p) (FL .i64 256 q) rfl (fitsP p) rfl (fitsP q) (by decide) (fun p1 p2 w6 l1 l2 n12 hb6 r1 r2 => ?_)
  simp only [vrP, Act.put, List.setIfInBounds_toArray, List.set_cons_zero, List.set_cons_succ] at r1 r2 ⊢
  have X2 := Away.mk r1
  have X3 := Away.mk r2
  have XP : Away (w6.heap[w.heap.size]? = some (.cells (FL .i64 256 f) 30 (0, 0))) := ⟨by rw [HI.out]; exact (hb6.block _ (lt_of_row VP.out)).trans VP.out⟩
  have X0 : Away (w6.heap[w1.heap.size]? = some (.cells (FL .i64 256 fun i => sh (f i)) 30 (0, 0))) := ⟨(hb6.block _ (lt_of_row V0.out)).trans V0.out⟩
  have X1 : Away (w6.heap[w1.heap.size + 1]? = some (.cells (FL .i64 256 fun i => sl (f i) % 8380417) 30 (0, 0))) := ⟨(hb6.block _ (lt_of_row V1.out)).trans V1.out⟩
  have XB : Away (Below w.heap.size w w6) := ⟨VB.out.trans (hb6.mono VB.out.size)⟩
  clear r1 r2 hb6 l1 l2 n12 VP V0 V1 VB H1 H2 H3 HO HA HB HI
  go_wp2_with fail
  go_loopw [25] (fun v wr => ∃ i : Nat, i ≤ 256 ∧ v = .int .i64 (i : Int) ∧ Away (Below w6.heap.size w6 wr)) (fun v _ => 256 - (intOf v).toNat)
  case atStart => exact ⟨0, Nat.zero_le _, rfl, ⟨Below.refl _ _⟩⟩
  case round =>
    obtain ⟨i, hi, rfl, A0⟩ := hrel
    by_cases hlt : i < 256
    · have hiz : (i : Int) < 256 := by omega
      obtain ⟨x, hx⟩ : ∃ x, f i = x := ⟨_, rfl⟩
      have hs := split_is x
      have hb := sl_bound x
      have hp := rndm.parts_261888 x
      have c0 : wr.cell? ⟨w1.heap.size, i, none⟩ = some (.int .i64 (sh x)) := by rw [← hx]; exact fl_at ((A0.out.block _ (lt_of_row X0.out)).trans X0.out) i hlt
      have c1 : wr.cell? ⟨w1.heap.size + 1, i, none⟩ = some (.int .i64 (sl x % 8380417)) := by rw [← hx]; exact fl_at ((A0.out.block _ (lt_of_row X1.out)).trans X1.out) i hlt
      have c2 : wr.cell? ⟨p1, i, none⟩ = some (.int .i64 (hgh 261888 x)) := by rw [← hx, ← Hpi.out]; exact fl_at ((A0.out.block _ (lt_of_row X2.out)).trans X2.out) i hlt
      have c3 : wr.cell? ⟨p2, i, none⟩ = some (.int .i64 (lw 261888 x % 8380417)) := by rw [← hx, ← Hqi.out]; exact fl_at ((A0.out.block _ (lt_of_row X3.out)).trans X3.out) i hlt
      have c4 : wr.cell? ⟨w.heap.size, i, none⟩ = some (.int .i64 x) := by rw [← hx]; exact fl_at ((A0.out.block _ (lt_of_row XP.out)).trans XP.out) i hlt
      have Hc1 := Away.mk (Hcen.out (sl x % 8380417) 8380417)
      rw [ce_back (sl x) (by omega) (by omega)] at Hc1
      have Hc2 := Away.mk (Hcen.out (lw 261888 x % 8380417) 8380417)
      rw [ce_back (lw 261888 x) (by omega) (by omega)] at Hc2
      obtain ⟨b1, hb1⟩ := ex_eq (sl x % 8380417)
      obtain ⟨b2, hb2⟩ := ex_eq (lw 261888 x % 8380417)
      rw [hb1.out] at Hc1 c1
      rw [hb2.out] at Hc2 c3
      clear hb1 hb2
      have Hx := Away.mk (Hred.out x)
      obtain ⟨r, hr⟩ := ex_eq (x % 8380417)
      rw [hr.out] at Hx hs hb hp
      obtain ⟨u, hu⟩ := ex_eq (sh x)
      obtain ⟨l, hl⟩ := ex_eq (sl x)
      obtain ⟨h0, hh0⟩ := ex_eq (hgh 261888 x)
      obtain ⟨l0, hl0⟩ := ex_eq (lw 261888 x)
      rw [hu.out, hl.out] at hs
      rw [hl.out] at hb Hc1
      rw [hu.out] at c0
      rw [hh0.out, hl0.out] at hp
      rw [hh0.out] at c2
      rw [hl0.out] at Hc2
      obtain ⟨u2, hu2⟩ : ∃ n, u * 8192 = n := ⟨_, rfl⟩
      have f1 : IntKind.i64.wrap (u * 8192) = u2 := by rw [IntKind.wrap_i64]; omega
      have f1b : IntKind.i64.wrap (u * 2 ^ 13) = u2 := by rw [IntKind.wrap_i64]; omega
      obtain ⟨n1, hn1⟩ : ∃ n, u2 + l = n := ⟨_, rfl⟩
      have f2 : IntKind.i64.wrap (u2 + l) = n1 := by rw [IntKind.wrap_i64]; omega
      have Hn1 : Away (∀ w1 : World, Calls Try.prog 13 #[.int .i64 n1] w1 fun e w' => e = .returned (.int .i64 r) ∧ w' = w1) := ⟨fun w1 => by have h := Hred.out n1 w1; rw [← hn1, ← hu2, hs.2.2] at h; rw [← hn1, ← hu2]; exact h⟩
      obtain ⟨h2, hh2⟩ : ∃ n, h0 * 2 = n := ⟨_, rfl⟩
      have f3 : IntKind.i64.wrap (h0 * 2) = h2 := by rw [IntKind.wrap_i64]; omega
      obtain ⟨h3, hh3⟩ : ∃ n, h2 * 261888 = n := ⟨_, rfl⟩
      have f4 : IntKind.i64.wrap (h2 * 261888) = h3 := by rw [IntKind.wrap_i64]; omega
      obtain ⟨n2, hn2⟩ : ∃ n, h3 + l0 = n := ⟨_, rfl⟩
      have f5 : IntKind.i64.wrap (h3 + l0) = n2 := by rw [IntKind.wrap_i64]; omega
      have Hn2 : Away (∀ w1 : World, Calls Try.prog 13 #[.int .i64 n2] w1 fun e w' => e = .returned (.int .i64 r) ∧ w' = w1) := ⟨fun w1 => by
        have h := Hred.out n2 w1
        rw [show n2 % 8380417 = r by rw [← hp.2.2.2.2]; congr 1; omega] at h
        exact h⟩
      have f6 : IntKind.i64.wrap 523776 = 523776 := by rw [IntKind.wrap_i64]; omega
      have f7 : IntKind.i64.wrap (Int.tdiv 8380416 523776) = 16 := by decide
      have f8 : IntKind.i64.wrap 16 = 16 := by rw [IntKind.wrap_i64]; omega
      have f9 : IntKind.i64.wrap (-261888) = -261888 := by rw [IntKind.wrap_i64]; omega
      have q1 : decide (4096 < l) = false := decide_eq_false (by omega)
      have q2 : decide (l ≤ -4096) = false := decide_eq_false (by omega)
      have q3 : decide (u < 0) = false := decide_eq_false (by omega)
      have q4 : decide (1023 < u) = false := decide_eq_false (by omega)
      have q5 : decide (261888 < l0) = false := decide_eq_false (by omega)
      have q6 : decide (l0 < -261888) = false := decide_eq_false (by omega)
      have q7 : decide (h0 < 0) = false := decide_eq_false (by omega)
      have q8 : decide (16 ≤ h0) = false := decide_eq_false (by omega)
      clear hs hb hp hu2 hn1 hh2 hh3 hn2 hr hu hl hh0 hl0 hx
      go_wp2_with fail
      refine still_all (by kernel_rfl) (by kernel_rfl) ?_
      repeat still_step
      still_call (Hc1.out _)
      repeat still_step
      still_call (Hc2.out _)
      repeat still_step
      refine wpStill_nil ?_
      go_wp2_with fail
      refine region_still_ops (by kernel_rfl) (by kernel_rfl) (fun ops HO => ?_)
      still_step
      still_step
      still_step
      still_step
      still_step
      still_step
      still_call (Hn1.out _)
      still_step
      still_step
      still_step
      still_call (Hx.out _)
      still_step
      still_step
      refine wpStill_want (by rw [← HO.out]; kernel_rfl) (fun K hK => ?_)
      go_simp
      refine hK _ ?_
      clear hK K
      refine wpStill_want (by rw [← HO.out]; kernel_rfl) (fun K hK => ?_)
      go_simp
      refine hK _ ?_
      clear hK K
      still_step
      still_step
      refine wpStill_want (by rw [← HO.out]; kernel_rfl) (fun K hK => ?_)
      go_simp
      refine hK _ ?_
      clear hK K
      refine wpStill_want (by rw [← HO.out]; kernel_rfl) (fun K hK => ?_)
      go_simp
      refine hK _ ?_
      clear hK K
      still_step
      still_step
      refine wpStill_want (by rw [← HO.out]; kernel_rfl) (fun K hK => ?_)
      go_simp
      refine hK _ ?_
      clear hK K
      refine wpStill_want (by rw [← HO.out]; kernel_rfl) (fun K hK => ?_)
      go_simp
      refine hK _ ?_
      clear hK K
      refine wpStill_want (by rw [← HO.out]; kernel_rfl) (fun K hK => ?_)
      go_simp
      refine hK _ ?_
      clear hK K
      refine wpStill_want (by rw [← HO.out]; kernel_rfl) (fun K hK => ?_)
      go_simp
      refine hK _ ?_
      clear hK K
      still_step
      still_step
      refine wpStill_want (by rw [← HO.out]; kernel_rfl) (fun K hK => ?_)
      go_simp
      refine hK _ ?_
      clear hK K
      refine wpStill_want (by rw [← HO.out]; kernel_rfl) (fun K hK => ?_)
      go_simp
      refine hK _ ?_
      clear hK K
      refine wpStill_want (by rw [← HO.out]; kernel_rfl) (fun K hK => ?_)
      go_simp
      refine hK _ ?_
      clear hK K
      refine wpStill_want (by rw [← HO.out]; kernel_rfl) (fun K hK => ?_)
      go_simp
      refine hK _ ?_
      clear hK K
      still_step
      refine wpStill_nil ?_
      clear HO
      go_wp2_with fail
      refine region_still_ops (by kernel_rfl) (by kernel_rfl) (fun ops HO => ?_)
      still_step
      still_step
      still_step
      still_step
      still_step
      still_step
      still_step
      still_step
      still_call (Hn2.out _)
      still_step
      still_step
      still_step
      still_call (Hx.out _)
      still_step
      still_step
      refine wpStill_want (by rw [← HO.out]; kernel_rfl) (fun K hK => ?_)
      go_simp
      refine hK _ ?_
      clear hK K
      refine wpStill_want (by rw [← HO.out]; kernel_rfl) (fun K hK => ?_)
      go_simp
      refine hK _ ?_
      clear hK K
      refine wpStill_want (by rw [← HO.out]; kernel_rfl) (fun K hK => ?_)
      go_simp
      refine hK _ ?_
      clear hK K
      still_step
      still_step
      refine wpStill_want (by rw [← HO.out]; kernel_rfl) (fun K hK => ?_)
      go_simp
      refine hK _ ?_
      clear hK K
      refine wpStill_want (by rw [← HO.out]; kernel_rfl) (fun K hK => ?_)
      go_simp
      refine hK _ ?_
      clear hK K
      refine wpStill_want (by rw [← HO.out]; kernel_rfl) (fun K hK => ?_)
      go_simp
      refine hK _ ?_
      clear hK K
      refine wpStill_want (by rw [← HO.out]; kernel_rfl) (fun K hK => ?_)
      go_simp
      refine hK _ ?_
      clear hK K
      still_step
      still_step
      refine wpStill_want (by rw [← HO.out]; kernel_rfl) (fun K hK => ?_)
      go_simp
      refine hK _ ?_
      clear hK K
      refine wpStill_want (by rw [← HO.out]; kernel_rfl) (fun K hK => ?_)
      go_simp
      refine hK _ ?_
      clear hK K
      refine wpStill_want (by rw [← HO.out]; kernel_rfl) (fun K hK => ?_)
      go_simp
      refine hK _ ?_
      clear hK K
      refine wpStill_want (by rw [← HO.out]; kernel_rfl) (fun K hK => ?_)
      go_simp
      refine hK _ ?_
      clear hK K
      still_step
      still_step
      refine wpStill_want (by rw [← HO.out]; kernel_rfl) (fun K hK => ?_)
      go_simp
      refine hK _ ?_
      clear hK K
      refine wpStill_want (by rw [← HO.out]; kernel_rfl) (fun K hK => ?_)
      go_simp
      refine hK _ ?_
      clear hK K
      refine wpStill_want (by rw [← HO.out]; kernel_rfl) (fun K hK => ?_)
      go_simp
      refine hK _ ?_
      clear hK K
      refine wpStill_want (by rw [← HO.out]; kernel_rfl) (fun K hK => ?_)
      go_simp
      refine hK _ ?_
      clear hK K
      refine wpStill_want (by rw [← HO.out]; kernel_rfl) (fun K hK => ?_)
      go_simp
      refine hK _ ?_
      clear hK K
      refine wpStill_want (by rw [← HO.out]; kernel_rfl) (fun K hK => ?_)
      go_simp
      refine hK _ ?_
      clear hK K
      refine wpStill_want (by rw [← HO.out]; kernel_rfl) (fun K hK => ?_)
      go_simp
      refine hK _ ?_
      clear hK K
      still_step
      refine wpStill_nil ?_
      clear HO c0 c1 c2 c3 c4
      go_wp2_with fail
      go_roundw
      case rel => exact ⟨i + 1, by omega, by go_num, ⟨((A0.out.drew).drew).drew⟩⟩
      case measure => simp [intOf]; omega
    · obtain rfl : i = 256 := by omega
      simp only [Int.cast_ofNat_Int]
      have HB4 : Away (Below w.heap.size w wr) := ⟨XB.out.trans (A0.out.mono XB.out.size)⟩
      clear A0
      go_wp2_with fail
      refine (Ha.out _).mono ?_
      rintro e w7 ⟨rfl, hb7⟩
      go_wp2_with fail
      go_ret
      exact ⟨rfl, HB4.out.trans (hb7.mono HB4.out.size)⟩
theorem walk (f : Nat → Int) (b : Bool) (w : World) :
    Calls Try.prog 4 #[.agg (FL .i64 256 f), .bool b] w fun e w' => e = .returned (.bool true) ∧ Below w.heap.size w w' := by
  cases b
  · exact walk_false f w
  · exact walk_true f w
/-! ### The row -/
set_option maxRecDepth 100000 in
theorem lifted (os : Os) (started : os.Started) (H : Type) (enc : TypeId × Value → H) :
    ReturnsInHanded {} Try.checked os 4 .any (Rows.roundPartsSpec.pre6 enc Try.prog Try.f4 Rows.roundPartsRow.domain false) (Rows.roundPartsSpec.post enc Try.prog Try.f4 false true false false) := by
  refine returnsInHanded_of_change (C := Try.checked) own started (by kernel_rfl) Try.func4
    (ChangeSpec.witness6 (enc := enc) (C := Try.checked) false ⟨#[], #[.agg (polys.FL .i64 256 fun _ => 0), .bool false], []⟩ 8 (by kernel_rfl) (by kernel_rfl) (by kernel_rfl) (by kernel_rfl)) ?_
  intro W base args ds gs before hval0 hW hcnd _
  have hval : ∀ (j : Nat) t v, Try.f4.params[j]? = some t → args[j]? = some v → Value.okWide Try.prog W .any base t v := hval0
  have hW' := hW
  have hlt := hW.lt
  obtain ⟨p, q, hA0, hV, rfl, hfz, hnd⟩ := hW
  have hA : DataW.TrodAll enc Try.prog W 0 (fun _ => true) true Try.f4.params.toList args.toList ds p := hA0
  rw [Try.params4] at hA hval
  obtain ⟨v0, vs0, d0, ds0, p0, q0, hargs, rfl, rfl, h0, r0⟩ := trodAll_cons hA
  obtain ⟨v1, vs1, d1, ds1, p1, q1, rfl, rfl, rfl, h1, r1⟩ := trodAll_cons r0
  obtain ⟨rfl, rfl, rfl⟩ := trodAll_nil r1
  obtain rfl : args = #[v0, v1] := by cases args; simp_all
  obtain ⟨rfl, rfl⟩ := trodVars_none hV
  obtain ⟨a0, rfl, w0⟩ := polys.open_fl (n := 256) (k := .i64) Try.underlying30 Try.underlying3 (by kernel_rfl) (by kernel_rfl) (hval 0 30 v0 rfl rfl) h0
  obtain ⟨a1, rfl, rfl, rfl⟩ := open_bool Try.underlying4 (hval 1 4 v1 rfl rfl) h1
  clear hA0 hval0
  refine (walk a0 a1 W).mono fun e W' ⟨he, bel⟩ => ?_
  subst he
  exact ⟨_, rfl, _, _, _, [], _, [], hW', trodAll_mk1 (shut_bool Try.underlying4 _), (trodAll_cons_mk (Below.trod laidOut (by kernel_rfl) (of_decide_eq_true (by kernel_rfl)) h0 bel (fun x hx => by first | exact absurd hx (by simp) | exact hlt x (by simpa using hx) | exact hlt x (by simp; exact Or.inl hx) | exact hlt x (by simp; exact Or.inr hx) | exact hlt x (by simp; exact Or.inr (Or.inl hx)) | exact hlt x (by simp; exact Or.inr (Or.inr hx)))) (trodAll_cons_mk (Below.trod laidOut (by kernel_rfl) (of_decide_eq_true (by kernel_rfl)) h1 bel (fun x hx => by first | exact absurd hx (by simp) | exact hlt x (by simpa using hx) | exact hlt x (by simp; exact Or.inl hx) | exact hlt x (by simp; exact Or.inr hx) | exact hlt x (by simp; exact Or.inr (Or.inl hx)) | exact hlt x (by simp; exact Or.inr (Or.inr hx)))) trodAll_mk0)), rfl, bel.frame _, fun h => by cases h⟩

theorem over : Rows.roundPartsRow.holds Try.pinned (OpenSpec.ofChange Rows.roundPartsSpec) :=
  OpenClaim.holds_of_wide 4 Try.f4 rfl rfl rfl rfl rfl rfl rfl ⟨rfl, rfl, rfl, rfl, rfl⟩ rfl rfl rfl rfl rfl (by kernel_rfl) Try.func4 (by kernel_rfl)
    (of_decide_eq_true (by kernel_rfl)) (by unfold Func.isWrapper; first | (rw [if_pos (by decide +kernel)]; kernel_rfl) | (rw [if_neg (by decide +kernel)]; exact ⟨rfl, rfl⟩))
    (fun os started H enc _ => lifted os started H enc)

theorem proved : Rows.RoundPartsSaid :=
  over
end Go.Proofs.Ytfgigpmhncfpbaa.l9p
