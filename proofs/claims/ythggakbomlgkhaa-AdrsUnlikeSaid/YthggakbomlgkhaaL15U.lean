/-
  The statement AdrsUnlike (P15.7): two addresses whose numbers go into their bytes have the same text, long or short, if and only if they are equal. Conditions: the numbers are of their types.
-/
import Derived.Test.YthggakbomlgkhaaAwake15
import Derived.Test.YthggakbomlgkhaaSmall15
import Derived.Test.YthggakbomlgkhaaHeldB
import Derived.Test.YthggakbomlgkhaaOpAd
import Derived.Test.YthggakbomlgkhaaQTail
import Derived.WideShapes
namespace Go.Proofs.Ythggakbomlgkhaa.l15u
open Go Go.RowKit
open Go.Proofs.Ythggakbomlgkhaa.arr Go.Proofs.Ythggakbomlgkhaa.mem Go.Proofs.Ythggakbomlgkhaa.stil Go.Proofs.Ythggakbomlgkhaa.boxt Go.Proofs.Ythggakbomlgkhaa.polys Go.Proofs.Ythggakbomlgkhaa.adm Go.Proofs.Ythggakbomlgkhaa.adp Go.Proofs.Ythggakbomlgkhaa.adt Go.Proofs.Ythggakbomlgkhaa.awake15 Go.Proofs.Ythggakbomlgkhaa.small15 Go.Proofs.Ythggakbomlgkhaa.helda Go.Proofs.Ythggakbomlgkhaa.heldb Go.Proofs.Ythggakbomlgkhaa.qtail

/-- '==' of two addresses, its answer told -/
theorem told_eq {o : Oper} {a : Act} (w : World) (x y : Operand) (xs ys : Array Value) (b : Bool) (ho : o.op = .binOp .eql 26 x y 26) (hx : a.eval x = .agg xs) (hy : a.eval y = .agg ys)
    (hb : ∀ w, (Op.equalIn 10000 26 (.agg xs) (.agg ys)).run Try.prog w = .ok b w) : (execOp a.eval o).run Try.prog w = .ok (.value (.bool b)) w := by
  unfold execOp
  simp only [ho, hx, hy, Sem.run_bind, run_eqGuard_agg _ .eql _ _ _ _ _ guardA, Result.andThen_ok, run_eql_struct, hb, Sem.run_pure]
/-- the texts of two small addresses are the same if and only if they are -/
theorem texts (W : Nat → Nat) (l t u p h o l' t' u' p' h' o' : Nat) (hA : ∀ j, j < 6 → nums l t u p h o j < 256 ^ W j) (hB : ∀ j, j < 6 → nums l' t' u' p' h' o' j < 256 ^ W j) (e : (⟨(cat (nums l t u p h o) W 6).toArray⟩ : ByteArray) = ⟨(cat (nums l' t' u' p' h' o') W 6).toArray⟩) :
    l = l' ∧ t = t' ∧ u = u' ∧ p = p' ∧ h = h' ∧ o = o' := by
  injection e with e
  have e2 := cat_inj hA hB (by simpa using congrArg Array.toList e)
  exact ⟨e2 0 (by decide), e2 1 (by decide), e2 2 (by decide), e2 3 (by decide), e2 4 (by decide), e2 5 (by decide)⟩
theorem six {P : Nat → Prop} (h0 : P 0) (h1 : P 1) (h2 : P 2) (h3 : P 3) (h4 : P 4) (h5 : P 5) : ∀ j, j < 6 → P j := fun j hj => by
  obtain rfl | rfl | rfl | rfl | rfl | rfl : j = 0 ∨ j = 1 ∨ j = 2 ∨ j = 3 ∨ j = 4 ∨ j = 5 := by omega
  · exact h0
  · exact h1
  · exact h2
  · exact h3
  · exact h4
  · exact h5
theorem toList_ne {x y : ByteArray} (h : x ≠ y) : ¬ x.toList = y.toList := fun e => h (by
  rw [ByteArray.toList_eq, ByteArray.toList_eq] at e
  exact WideShapes.bytes_inj e)
set_option maxRecDepth 100000 in
set_option maxHeartbeats 4000000 in
/-- the law's body behind what small returns: both texts of both, told by variables -/
theorem near (A B V V' : Array Value) (X Y S T : ByteArray) (b : Bool) (w : World)
    (hAs : A.size = 6) (hBs : B.size = 6) (hVs : V.size = 6) (hVs' : V'.size = 6) (hVo : V.all (·.oneCell') = true) (hVo' : V'.all (·.oneCell') = true)
    (HA : ∀ w1 : World, Calls Try.prog 21 #[.agg A] w1 fun e w' => e = .returned (.agg V) ∧ Below w1.heap.size w1 w')
    (HB : ∀ w1 : World, Calls Try.prog 21 #[.agg B] w1 fun e w' => e = .returned (.agg V') ∧ Below w1.heap.size w1 w')
    (HX : ∀ w1 : World, Calls Try.prog 14 #[.agg V] w1 fun e w' => e = .returned (.string X) ∧ Below w1.heap.size w1 w')
    (HY : ∀ w1 : World, Calls Try.prog 14 #[.agg V'] w1 fun e w' => e = .returned (.string Y) ∧ Below w1.heap.size w1 w')
    (HS : ∀ w1 : World, Calls Try.prog 16 #[.agg V] w1 fun e w' => e = .returned (.string S) ∧ Below w1.heap.size w1 w')
    (HT : ∀ w1 : World, Calls Try.prog 16 #[.agg V'] w1 fun e w' => e = .returned (.string T) ∧ Below w1.heap.size w1 w')
    (hb : ∀ w1, (Op.equalIn 10000 26 (.agg V) (.agg V')).run Try.prog w1 = .ok b w1)
    (hx : b = true ∧ X = Y ∧ S = T ∨ b = false ∧ X ≠ Y ∧ S ≠ T) :
    Calls Try.prog 4 #[.agg A, .agg B] w fun e w' => e = .returned (.bool true) ∧ Below w.heap.size w w' := by
  have hsz : (Try.prog.info? 26).map (·.size) = some 6 := by kernel_rfl
  have Ai : Away ((Try.prog.info? 26).map (·.size) = some A.size) := ⟨by rw [hAs]; exact hsz⟩
  have Bi : Away ((Try.prog.info? 26).map (·.size) = some B.size) := ⟨by rw [hBs]; exact hsz⟩
  have Vi : Away ((Try.prog.info? 26).map (·.size) = some V.size) := ⟨by rw [hVs]; exact hsz⟩
  have Wi : Away ((Try.prog.info? 26).map (·.size) = some V'.size) := ⟨by rw [hVs']; exact hsz⟩
  have AV : Away (A.size = V.size) := ⟨by rw [hAs, hVs]⟩
  have BW : Away (B.size = V'.size) := ⟨by rw [hBs, hVs']⟩
  have HVo := Away.mk hVo
  have HWo := Away.mk hVo'
  have HA := Away.mk HA
  have HB := Away.mk HB
  have HX := Away.mk HX
  have HY := Away.mk HY
  have HS := Away.mk HS
  have HT := Away.mk HT
  have Hb := Away.mk hb
  have Hx := Away.mk hx
  have HAw := Away.mk (fun w1 => awake_any w1)
  clear hAs hBs hVs hVs' hVo hVo' hsz hx hb
  obtain ⟨W, hW⟩ : ∃ x, (w.alloc (.cells A 26)).alloc (.cells B 26) = x := ⟨_, rfl⟩
  obtain ⟨ra, rb, hs0, hb0⟩ := two hW
  have HW := Away.mk hW
  have Ra := Away.mk ra
  have Rb := Away.mk rb
  have B0 := Away.mk hb0
  clear hW ra rb hs0 hb0
  go_enter Try.func4, Try.ntmps4
  go_wp2_with (rw [HW.out])
  refine region_below_tail 4 (by kernel_rfl) (by kernel_rfl) ?_
  refine wpQuiet_load rfl 26 _ rfl _ rfl 26 _ _ (fun w' hC => heap_regrown Ra.out hC) Try.underlying26 rfl Ai.out ?_
  quiet_step (exact Calls.regrown_of (HA.out _))
  refine wpQuiet_load rfl 26 _ rfl _ rfl 26 _ _ (fun w' hC => heap_regrown Rb.out hC) Try.underlying26 rfl Bi.out ?_
  quiet_step (exact Calls.regrown_of (HB.out _))
  refine wpQuiet_nil ?_
  intro w3 hC
  have hb3 : Below W.heap.size W w3 := by
    obtain ⟨pp, rfl⟩ := hC
    exact below_regrown _ _ _
  have C0 : Away (w3.heap[w.heap.size]? = some (.cells A 26 (0, 0))) := ⟨(hb3.block _ (lt_of_row Ra.out)).trans Ra.out⟩
  have C1 : Away (w3.heap[w.heap.size + 1]? = some (.cells B 26 (0, 0))) := ⟨(hb3.block _ (lt_of_row Rb.out)).trans Rb.out⟩
  have HB3 : Away (Below w.heap.size w w3) := ⟨B0.out.trans (hb3.mono B0.out.size)⟩
  clear hC hb3
  simp only [List.drop_succ_cons, List.drop_zero]
  refine wpList_store_row rfl 26 _ _ rfl w.heap.size V rfl rfl 26 _ C0.out Vi.out AV.out HVo.out ?_
  obtain ⟨w4, hw4⟩ : ∃ x, w3.setRow w.heap.size V = x := ⟨_, rfl⟩
  have D0 : Away (w4.heap[w.heap.size]? = some (.cells V 26 (0, 0))) := ⟨by rw [← hw4]; exact setRow_heap _ _ _ _ _ _ C0.out⟩
  have D1 : Away (w4.heap[w.heap.size + 1]? = some (.cells B 26 (0, 0))) := ⟨by rw [← hw4]; exact (setRow_other _ _ _ _ (by omega)).trans C1.out⟩
  have HB4 : Away (Below w.heap.size w w4) := ⟨by rw [← hw4]; exact HB3.out.trans (below_setRow _ _ _ (by omega))⟩
  rw [hw4]
  clear hw4 C0 C1 HB3
  refine wpList_store_row rfl 26 _ _ rfl (w.heap.size + 1) V' rfl rfl 26 _ D1.out Wi.out BW.out HWo.out ?_
  obtain ⟨w5, hw5⟩ : ∃ x, w4.setRow (w.heap.size + 1) V' = x := ⟨_, rfl⟩
  have E0 : Away (w5.heap[w.heap.size]? = some (.cells V 26 (0, 0))) := ⟨by rw [← hw5]; exact (setRow_other _ _ _ _ (by omega)).trans D0.out⟩
  have E1 : Away (w5.heap[w.heap.size + 1]? = some (.cells V' 26 (0, 0))) := ⟨by rw [← hw5]; exact setRow_heap _ _ _ _ _ _ D1.out⟩
  have HB5 : Away (Below w.heap.size w w5) := ⟨by rw [← hw5]; exact HB4.out.trans (below_setRow _ _ _ (by omega))⟩
  have L0 : Away (∀ v1 : World, Below w5.heap.size w5 v1 → v1.heap[w.heap.size]? = some (.cells V 26 (0, 0))) := ⟨fun v1 h1 => (h1.block _ (lt_of_row E0.out)).trans E0.out⟩
  have L1 : Away (∀ v1 : World, Below w5.heap.size w5 v1 → v1.heap[w.heap.size + 1]? = some (.cells V' 26 (0, 0))) := ⟨fun v1 h1 => (h1.block _ (lt_of_row E1.out)).trans E1.out⟩
  rw [hw5]
  clear hw5 D0 D1 HB4
  rcases Hx.out with ⟨q1, q2, q3⟩ | ⟨q1, q2, q3⟩
  · subst q1 q2 q3
    clear Hx
    go_wp2_with fail
    refine hk_begin (w5.heap.size) 24 [0, 2, 5, 6, 7, 1, 3, 4, 8, 9, 10, 12, 15, 16, 17, 11, 13, 14, 18, 19, 20, 21, 22, 23] (by kernel_rfl) rfl rfl (by decide) (fun hS ops HO => ?_)
    simp only [List.filterMap_cons, fa, List.getElem?_cons_succ, List.getElem?_cons_zero]
    refine hk_l (by rw [← HO.out]; kernel_rfl) (fun _ _ _ _ h => h) 26 _ rfl (w.heap.size) rfl 26 V _ L0.out Try.underlying26 rfl Vi.out hS ?_
    simp only [Act.put, pa, pb, pc]
    refine hk_l (by rw [← HO.out]; kernel_rfl) (fun _ _ _ _ h => h) 26 _ rfl (w.heap.size + 1) rfl 26 V' _ L1.out Try.underlying26 rfl Wi.out hS ?_
    simp only [Act.put, pa, pb, pc]
    refine hk_l (by rw [← HO.out]; kernel_rfl) (fun _ _ _ _ h => h) 26 _ rfl (w.heap.size) rfl 26 V _ L0.out Try.underlying26 rfl Vi.out hS ?_
    simp only [Act.put, pa, pb, pc]
    refine hk_l (by rw [← HO.out]; kernel_rfl) (fun _ _ _ _ h => h) 26 _ rfl (w.heap.size + 1) rfl 26 V' _ L1.out Try.underlying26 rfl Wi.out hS ?_
    simp only [Act.put, pa, pb, pc]
    refine hk_t (v := _) (by rw [← HO.out]; kernel_rfl) (fun _ _ _ h => h) (fun v9 _ => told_eq v9 _ _ _ _ _ rfl rfl rfl Hb.out) hS ?_
    simp only [Act.put, pa, pb, pc]
    refine hk_s (by rw [← HO.out]; kernel_rfl) (fun K hK => ?_)
    go_simp
    refine (HX.out _).mono ?_
    rintro x x1 ⟨rfl, hb1⟩
    have h1 := hS.trans (hb1.mono hS.size)
    refine hK _ _ h1 ?_
    clear hK K
    try simp only [Act.put, pa, pb, pc]
    refine hk_s (by rw [← HO.out]; kernel_rfl) (fun K hK => ?_)
    go_simp
    refine (HY.out _).mono ?_
    rintro x x2 ⟨rfl, hb2⟩
    have h2 := h1.trans (hb2.mono h1.size)
    refine hK _ _ h2 ?_
    clear hK K
    try simp only [Act.put, pa, pb, pc]
    (refine hk_t (v := ?_) (by rw [← HO.out]; kernel_rfl) (fun _ _ _ h => h) ?_ h2 ?_; rotate_left; focus (intro w9 h9; go_simp; first | done | with_reducible rfl); all_goals skip)
    simp only [Act.put, pa, pb, pc]
    (refine hk_t (v := ?_) (by rw [← HO.out]; kernel_rfl) (fun _ _ _ h => h) ?_ h2 ?_; rotate_left; focus (intro w9 h9; go_simp; first | done | with_reducible rfl); all_goals skip)
    simp only [Act.put, pa, pb, pc]
    (refine hk_t (v := ?_) (by rw [← HO.out]; kernel_rfl) (fun _ _ _ h => h) ?_ h2 ?_; rotate_left; focus (intro w9 h9; go_simp; first | done | with_reducible rfl); all_goals skip)
    simp only [Act.put, pa, pb, pc]
    refine hk_l (by rw [← HO.out]; kernel_rfl) (fun _ _ _ _ h => h) 26 _ rfl (w.heap.size) rfl 26 V _ L0.out Try.underlying26 rfl Vi.out h2 ?_
    simp only [Act.put, pa, pb, pc]
    refine hk_l (by rw [← HO.out]; kernel_rfl) (fun _ _ _ _ h => h) 26 _ rfl (w.heap.size + 1) rfl 26 V' _ L1.out Try.underlying26 rfl Wi.out h2 ?_
    simp only [Act.put, pa, pb, pc]
    refine hk_l (by rw [← HO.out]; kernel_rfl) (fun _ _ _ _ h => h) 26 _ rfl (w.heap.size) rfl 26 V _ L0.out Try.underlying26 rfl Vi.out h2 ?_
    simp only [Act.put, pa, pb, pc]
    refine hk_l (by rw [← HO.out]; kernel_rfl) (fun _ _ _ _ h => h) 26 _ rfl (w.heap.size + 1) rfl 26 V' _ L1.out Try.underlying26 rfl Wi.out h2 ?_
    simp only [Act.put, pa, pb, pc]
    refine hk_t (v := _) (by rw [← HO.out]; kernel_rfl) (fun _ _ _ h => h) (fun v9 _ => told_eq v9 _ _ _ _ _ rfl rfl rfl Hb.out) h2 ?_
    simp only [Act.put, pa, pb, pc]
    refine hk_s (by rw [← HO.out]; kernel_rfl) (fun K hK => ?_)
    go_simp
    refine (HS.out _).mono ?_
    rintro x x3 ⟨rfl, hb3⟩
    have h3 := h2.trans (hb3.mono h2.size)
    refine hK _ _ h3 ?_
    clear hK K
    try simp only [Act.put, pa, pb, pc]
    refine hk_s (by rw [← HO.out]; kernel_rfl) (fun K hK => ?_)
    go_simp
    refine (HT.out _).mono ?_
    rintro x x4 ⟨rfl, hb4⟩
    have h4 := h3.trans (hb4.mono h3.size)
    refine hK _ _ h4 ?_
    clear hK K
    try simp only [Act.put, pa, pb, pc]
    (refine hk_t (v := ?_) (by rw [← HO.out]; kernel_rfl) (fun _ _ _ h => h) ?_ h4 ?_; rotate_left; focus (intro w9 h9; go_simp; first | done | with_reducible rfl); all_goals skip)
    simp only [Act.put, pa, pb, pc]
    (refine hk_t (v := ?_) (by rw [← HO.out]; kernel_rfl) (fun _ _ _ h => h) ?_ h4 ?_; rotate_left; focus (intro w9 h9; go_simp; first | done | with_reducible rfl); all_goals skip)
    simp only [Act.put, pa, pb, pc]
    (refine hk_t (v := ?_) (by rw [← HO.out]; kernel_rfl) (fun _ _ _ h => h) ?_ h4 ?_; rotate_left; focus (intro w9 h9; go_simp; first | done | with_reducible rfl); all_goals skip)
    simp only [Act.put, pa, pb, pc]
    (refine hk_t (v := ?_) (by rw [← HO.out]; kernel_rfl) (fun _ _ _ h => h) ?_ h4 ?_; rotate_left; focus (intro w9 h9; go_simp; first | done | with_reducible rfl); all_goals skip)
    simp only [Act.put, pa, pb, pc]
    refine hk_s (by rw [← HO.out]; kernel_rfl) (fun K hK => ?_)
    go_simp
    refine (HAw.out _).mono ?_
    rintro x x5 ⟨rfl, hb5⟩
    have h5 := h4.trans (hb5.mono h4.size)
    refine hK _ _ h5 ?_
    clear hK K
    try simp only [Act.put, pa, pb, pc]
    (refine hk_t (v := ?_) (by rw [← HO.out]; kernel_rfl) (fun _ _ _ h => h) ?_ h5 ?_; rotate_left; focus (intro w9 h9; go_simp; first | done | with_reducible rfl); all_goals skip)
    simp only [Act.put, pa, pb, pc]
    (refine hk_t (v := ?_) (by rw [← HO.out]; kernel_rfl) (fun _ _ _ h => h) ?_ h5 ?_; rotate_left; focus (intro w9 h9; go_simp; first | done | with_reducible rfl); all_goals skip)
    simp only [Act.put, pa, pb, pc]
    refine hk_nil (by rw [← HO.out]; kernel_rfl) ?_
    have B9 : Below w.heap.size w x5 := HB5.out.trans (h5.mono HB5.out.size)
    go_wp2_with fail
    go_ret
    exact ⟨rfl, B9⟩
  · subst q1
    have q4 : (X.toList == Y.toList) = false := beq_eq_false_iff_ne.2 (toList_ne q2)
    have q5 : (S.toList == T.toList) = false := beq_eq_false_iff_ne.2 (toList_ne q3)
    clear Hx q2 q3
    go_wp2_with fail
    refine hk_begin (w5.heap.size) 24 [0, 2, 5, 6, 7, 1, 3, 4, 8, 9, 10, 12, 15, 16, 17, 11, 13, 14, 18, 19, 20, 21, 22, 23] (by kernel_rfl) rfl rfl (by decide) (fun hS ops HO => ?_)
    simp only [List.filterMap_cons, fa, List.getElem?_cons_succ, List.getElem?_cons_zero]
    refine hk_l (by rw [← HO.out]; kernel_rfl) (fun _ _ _ _ h => h) 26 _ rfl (w.heap.size) rfl 26 V _ L0.out Try.underlying26 rfl Vi.out hS ?_
    simp only [Act.put, pa, pb, pc]
    refine hk_l (by rw [← HO.out]; kernel_rfl) (fun _ _ _ _ h => h) 26 _ rfl (w.heap.size + 1) rfl 26 V' _ L1.out Try.underlying26 rfl Wi.out hS ?_
    simp only [Act.put, pa, pb, pc]
    refine hk_l (by rw [← HO.out]; kernel_rfl) (fun _ _ _ _ h => h) 26 _ rfl (w.heap.size) rfl 26 V _ L0.out Try.underlying26 rfl Vi.out hS ?_
    simp only [Act.put, pa, pb, pc]
    refine hk_l (by rw [← HO.out]; kernel_rfl) (fun _ _ _ _ h => h) 26 _ rfl (w.heap.size + 1) rfl 26 V' _ L1.out Try.underlying26 rfl Wi.out hS ?_
    simp only [Act.put, pa, pb, pc]
    refine hk_t (v := _) (by rw [← HO.out]; kernel_rfl) (fun _ _ _ h => h) (fun v9 _ => told_eq v9 _ _ _ _ _ rfl rfl rfl Hb.out) hS ?_
    simp only [Act.put, pa, pb, pc]
    refine hk_s (by rw [← HO.out]; kernel_rfl) (fun K hK => ?_)
    go_simp
    refine (HX.out _).mono ?_
    rintro x x1 ⟨rfl, hb1⟩
    have h1 := hS.trans (hb1.mono hS.size)
    refine hK _ _ h1 ?_
    clear hK K
    try simp only [Act.put, pa, pb, pc]
    refine hk_s (by rw [← HO.out]; kernel_rfl) (fun K hK => ?_)
    go_simp
    refine (HY.out _).mono ?_
    rintro x x2 ⟨rfl, hb2⟩
    have h2 := h1.trans (hb2.mono h1.size)
    refine hK _ _ h2 ?_
    clear hK K
    try simp only [Act.put, pa, pb, pc]
    (refine hk_t (v := ?_) (by rw [← HO.out]; kernel_rfl) (fun _ _ _ h => h) ?_ h2 ?_; rotate_left; focus (intro w9 h9; go_simp; first | done | with_reducible rfl); all_goals skip)
    simp only [Act.put, pa, pb, pc]
    (refine hk_t (v := ?_) (by rw [← HO.out]; kernel_rfl) (fun _ _ _ h => h) ?_ h2 ?_; rotate_left; focus (intro w9 h9; go_simp; first | done | with_reducible rfl); all_goals skip)
    simp only [Act.put, pa, pb, pc]
    (refine hk_t (v := ?_) (by rw [← HO.out]; kernel_rfl) (fun _ _ _ h => h) ?_ h2 ?_; rotate_left; focus (intro w9 h9; go_simp; first | done | with_reducible rfl); all_goals skip)
    simp only [Act.put, pa, pb, pc]
    refine hk_l (by rw [← HO.out]; kernel_rfl) (fun _ _ _ _ h => h) 26 _ rfl (w.heap.size) rfl 26 V _ L0.out Try.underlying26 rfl Vi.out h2 ?_
    simp only [Act.put, pa, pb, pc]
    refine hk_l (by rw [← HO.out]; kernel_rfl) (fun _ _ _ _ h => h) 26 _ rfl (w.heap.size + 1) rfl 26 V' _ L1.out Try.underlying26 rfl Wi.out h2 ?_
    simp only [Act.put, pa, pb, pc]
    refine hk_l (by rw [← HO.out]; kernel_rfl) (fun _ _ _ _ h => h) 26 _ rfl (w.heap.size) rfl 26 V _ L0.out Try.underlying26 rfl Vi.out h2 ?_
    simp only [Act.put, pa, pb, pc]
    refine hk_l (by rw [← HO.out]; kernel_rfl) (fun _ _ _ _ h => h) 26 _ rfl (w.heap.size + 1) rfl 26 V' _ L1.out Try.underlying26 rfl Wi.out h2 ?_
    simp only [Act.put, pa, pb, pc]
    refine hk_t (v := _) (by rw [← HO.out]; kernel_rfl) (fun _ _ _ h => h) (fun v9 _ => told_eq v9 _ _ _ _ _ rfl rfl rfl Hb.out) h2 ?_
    simp only [Act.put, pa, pb, pc]
    refine hk_s (by rw [← HO.out]; kernel_rfl) (fun K hK => ?_)
    go_simp
    refine (HS.out _).mono ?_
    rintro x x3 ⟨rfl, hb3⟩
    have h3 := h2.trans (hb3.mono h2.size)
    refine hK _ _ h3 ?_
    clear hK K
    try simp only [Act.put, pa, pb, pc]
    refine hk_s (by rw [← HO.out]; kernel_rfl) (fun K hK => ?_)
    go_simp
    refine (HT.out _).mono ?_
    rintro x x4 ⟨rfl, hb4⟩
    have h4 := h3.trans (hb4.mono h3.size)
    refine hK _ _ h4 ?_
    clear hK K
    try simp only [Act.put, pa, pb, pc]
    (refine hk_t (v := ?_) (by rw [← HO.out]; kernel_rfl) (fun _ _ _ h => h) ?_ h4 ?_; rotate_left; focus (intro w9 h9; go_simp; first | done | with_reducible rfl); all_goals skip)
    simp only [Act.put, pa, pb, pc]
    (refine hk_t (v := ?_) (by rw [← HO.out]; kernel_rfl) (fun _ _ _ h => h) ?_ h4 ?_; rotate_left; focus (intro w9 h9; go_simp; first | done | with_reducible rfl); all_goals skip)
    simp only [Act.put, pa, pb, pc]
    (refine hk_t (v := ?_) (by rw [← HO.out]; kernel_rfl) (fun _ _ _ h => h) ?_ h4 ?_; rotate_left; focus (intro w9 h9; go_simp; first | done | with_reducible rfl); all_goals skip)
    simp only [Act.put, pa, pb, pc]
    (refine hk_t (v := ?_) (by rw [← HO.out]; kernel_rfl) (fun _ _ _ h => h) ?_ h4 ?_; rotate_left; focus (intro w9 h9; go_simp; first | done | with_reducible rfl); all_goals skip)
    simp only [Act.put, pa, pb, pc]
    refine hk_s (by rw [← HO.out]; kernel_rfl) (fun K hK => ?_)
    go_simp
    refine (HAw.out _).mono ?_
    rintro x x5 ⟨rfl, hb5⟩
    have h5 := h4.trans (hb5.mono h4.size)
    refine hK _ _ h5 ?_
    clear hK K
    try simp only [Act.put, pa, pb, pc]
    (refine hk_t (v := ?_) (by rw [← HO.out]; kernel_rfl) (fun _ _ _ h => h) ?_ h5 ?_; rotate_left; focus (intro w9 h9; go_simp; first | done | with_reducible rfl); all_goals skip)
    simp only [Act.put, pa, pb, pc]
    (refine hk_t (v := ?_) (by rw [← HO.out]; kernel_rfl) (fun _ _ _ h => h) ?_ h5 ?_; rotate_left; focus (intro w9 h9; go_simp; first | done | with_reducible rfl); all_goals skip)
    simp only [Act.put, pa, pb, pc]
    refine hk_nil (by rw [← HO.out]; kernel_rfl) ?_
    have B9 : Below w.heap.size w x5 := HB5.out.trans (h5.mono HB5.out.size)
    go_wp2_with fail
    go_ret
    exact ⟨rfl, B9⟩
/-- a small address, its numbers as naturals -/
theorem smalls (l t k p h o : Int) (wl : (Lit.int .u64 l).wf = true) (wt : (Lit.int .u64 t).wf = true) (wp : (Lit.int .u64 p).wf = true) (wh : (Lit.int .u64 h).wf = true) (wo : (Lit.int .u64 o).wf = true) :
    ∃ l' t' u' p' h' o' : Nat, (l' < 256 ∧ t' < 18446744073709551616 ∧ u' < 256 ∧ p' < 4294967296 ∧ h' < 4294967296 ∧ o' < 4294967296) ∧
      (∀ w1 : World, Calls Try.prog 21 #[.agg (ad l t k p h o)] w1 fun e w' => e = .returned (.agg (ad l' t' (u' : Int) p' h' o')) ∧ Below w1.heap.size w1 w') ∧
      (∀ w1 : World, Calls Try.prog 14 #[.agg (ad l' t' (u' : Int) p' h' o')] w1 fun e w' => e = .returned (.string ⟨(cat (nums l' t' u' p' h' o') wL 6).toArray⟩) ∧ Below w1.heap.size w1 w') ∧
      (∀ w1 : World, Calls Try.prog 16 #[.agg (ad l' t' (u' : Int) p' h' o')] w1 fun e w' => e = .returned (.string ⟨(cat (nums l' t' u' p' h' o') wS 6).toArray⟩) ∧ Below w1.heap.size w1 w') := by
  obtain ⟨hl0, hl1⟩ := opad.wf_u64 wl
  obtain ⟨ht0, ht1⟩ := opad.wf_u64 wt
  obtain ⟨hp0, hp1⟩ := opad.wf_u64 wp
  obtain ⟨hh0, hh1⟩ := opad.wf_u64 wh
  obtain ⟨ho0, ho1⟩ := opad.wf_u64 wo
  obtain ⟨l, rfl⟩ := Int.eq_ofNat_of_zero_le hl0
  obtain ⟨t, rfl⟩ := Int.eq_ofNat_of_zero_le ht0
  obtain ⟨p, rfl⟩ := Int.eq_ofNat_of_zero_le hp0
  obtain ⟨h, rfl⟩ := Int.eq_ofNat_of_zero_le hh0
  obtain ⟨o, rfl⟩ := Int.eq_ofNat_of_zero_le ho0
  obtain ⟨u, hu⟩ := Int.eq_ofNat_of_zero_le (a := (IntKind.u64.wrap k).tmod 256) (Int.tmod_nonneg _ (by rw [IntKind.wrap_u64]; omega))
  have hu2 : u < 256 := by
    have := Int.tmod_lt_of_pos (IntKind.u64.wrap k) (show (0 : Int) < 256 by decide)
    omega
  have hk : (u : Int) = IntKind.i64.wrap (u : Int) := by rw [IntKind.wrap_i64]; omega
  exact ⟨l % 256, t, u, p % 4294967296, h % 4294967296, o % 4294967296, by omega, fun w1 => small_any l t p h o k u w1 hu hu2,
    fun w1 => bytes_any _ _ _ _ _ _ _ w1 hk (by omega) (by omega) (by omega) (by omega) (by omega) (by omega),
    fun w1 => short_any _ _ _ _ _ _ _ w1 hk (by omega) (by omega) (by omega) (by omega) (by omega) (by omega)⟩
theorem walk (a b c d e f a' b' c' d' e' f' : Int) (w : World) (wa : (Lit.int .u64 a).wf = true) (wb : (Lit.int .u64 b).wf = true) (_wc : (Lit.int .i64 c).wf = true) (wd : (Lit.int .u64 d).wf = true) (we : (Lit.int .u64 e).wf = true) (wf : (Lit.int .u64 f).wf = true)
    (wa' : (Lit.int .u64 a').wf = true) (wb' : (Lit.int .u64 b').wf = true) (_wc' : (Lit.int .i64 c').wf = true) (wd' : (Lit.int .u64 d').wf = true) (we' : (Lit.int .u64 e').wf = true) (wf' : (Lit.int .u64 f').wf = true) :
    Calls Try.prog 4 #[.agg (ad a b c d e f), .agg (ad a' b' c' d' e' f')] w fun e w' => e = .returned (.bool true) ∧ Below w.heap.size w w' := by
  obtain ⟨l, t, u, p, h, o, ⟨q0, q1, q2, q3, q4, q5⟩, s1, s2, s3⟩ := smalls a b c d e f wa wb wd we wf
  obtain ⟨l', t', u', p', h', o', ⟨r0, r1, r2, r3, r4, r5⟩, z1, z2, z3⟩ := smalls a' b' c' d' e' f' wa' wb' wd' we' wf'
  refine near _ _ _ _ _ _ _ _ _ w (ad_size ..) (ad_size ..) (ad_size ..) (ad_size ..) (ad_one ..) (ad_one ..) s1 z1 s2 z2 s3 z3 (fun w1 => eq_ad _ _ _ _ _ _ _ _ _ _ _ _ w1) ?_
  by_cases hq : l = l' ∧ t = t' ∧ u = u' ∧ p = p' ∧ h = h' ∧ o = o'
  · obtain ⟨rfl, rfl, rfl, rfl, rfl, rfl⟩ := hq
    exact Or.inl ⟨decide_eq_true ⟨rfl, rfl, rfl, rfl, rfl, rfl⟩, rfl, rfl⟩
  · refine Or.inr ⟨decide_eq_false fun x => hq (by omega), fun x => hq ?_, fun x => hq ?_⟩
    · exact texts wL _ _ _ _ _ _ _ _ _ _ _ _ (six (Nat.lt_of_lt_of_le q0 (by decide)) (Nat.lt_of_lt_of_le q1 (by decide)) (Nat.lt_of_lt_of_le q2 (by decide)) q3 q4 q5) (six (Nat.lt_of_lt_of_le r0 (by decide)) (Nat.lt_of_lt_of_le r1 (by decide)) (Nat.lt_of_lt_of_le r2 (by decide)) r3 r4 r5) x
    · exact texts wS _ _ _ _ _ _ _ _ _ _ _ _ (six q0 q1 q2 q3 q4 q5) (six r0 r1 r2 r3 r4 r5) x
end Go.Proofs.Ythggakbomlgkhaa.l15u
