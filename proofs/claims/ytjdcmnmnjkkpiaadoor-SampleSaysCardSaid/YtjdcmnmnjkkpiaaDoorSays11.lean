/-
  SampleSays, the near case (P11.1 to P11.3), with what package sample's functions return handed in. Conditions: keccak's variable 'places' holds what the program's text lays there.
-/
import Derived.Test.YtjdcmnmnjkkpiaaDoorRSDx
import Derived.Test.YtjdcmnmnjkkpiaaDoorPuA
import Derived.Test.YtjdcmnmnjkkpiaaDoorRTm
namespace Go.Proofs.YtjdcmnmnjkkpiaaDoor.says11
set_option linter.unusedSimpArgs false
open Go Go.RowKit
open Go.Proofs.YtjdcmnmnjkkpiaaDoor.mem Go.Proofs.YtjdcmnmnjkkpiaaDoor.arr Go.Proofs.YtjdcmnmnjkkpiaaDoor.tabv Go.Proofs.YtjdcmnmnjkkpiaaDoor.built Go.Proofs.YtjdcmnmnjkkpiaaDoor.keca Go.Proofs.YtjdcmnmnjkkpiaaDoor.kturn Go.Proofs.YtjdcmnmnjkkpiaaDoor.polys Go.Proofs.YtjdcmnmnjkkpiaaDoor.polt Go.Proofs.YtjdcmnmnjkkpiaaDoor.rsdoc Go.Proofs.YtjdcmnmnjkkpiaaDoor.helda

set_option maxRecDepth 100000 in
set_option maxHeartbeats 4000000 in
theorem near (b : ByteArray) (n0 n1 : Int) (w : World) (hb : b.size ≤ 400) (hP : Gp w)
    (HU : ∀ w1 : World, Gp w1 → Calls Tryd.prog 8 #[.agg TA, .string b] w1 fun e w' => e = .returned (.agg (FL .i64 256 (dU b))) ∧ Below w1.heap.size w1 w')
    (HS : ∀ w1 : World, Gp w1 → Calls Tryd.prog 10 #[.agg TA, .string b, .int .i64 n0] w1 fun e w' => e = .returned (.agg (FL .i64 256 (dS b n0))) ∧ Below w1.heap.size w1 w')
    (HB : ∀ w1 : World, Gp w1 → Calls Tryd.prog 12 #[.agg TA, .string b, .int .i64 n1] w1 fun e w' => e = .returned (.agg (FL .i64 256 (dB b n1))) ∧ Below w1.heap.size w1 w')
    (HA : ∀ w1 : World, Gp w1 → Calls Tryd.prog 6 #[] w1 fun e w' => e = .returned (.bool true) ∧ Below w1.heap.size w1 w') :
    Calls Tryd.prog 3 #[.string b, .agg #[.int .i64 n0, .int .i64 n1]] w fun e w' => e = .returned (.bool true) ∧ Below w.heap.size w w' := by
  have HP := Away.mk hP
  obtain ⟨hz, hsize⟩ := zero_of_info built.infoT
  obtain ⟨Zt, HZ⟩ := ex_eq TZ
  rw [HZ.out] at hz
  have HZs : Away (Zt.size = 465) := ⟨by rw [← HZ.out]; exact tz_size⟩
  have Hsize := Away.mk hsize
  have hkt := kecd.kt_doc
  obtain ⟨T, HT⟩ := ex_eq TA
  rw [HT.out] at hkt HU HS HB
  have HTs : Away (T.size = 465) := ⟨by rw [← HT.out]; exact ta_size⟩
  have HTo : Away (T.all (·.oneCell') = true) := ⟨by rw [← HT.out]; exact ta_one⟩
  have HTz : Away ((Tryd.prog.info? 34).map (·.size) = some T.size) := ⟨by rw [HTs.out]; exact Hsize.out⟩
  have Hmk : Away (∀ w1 : World, Calls Tryd.prog 7 #[] w1 fun e w' => e = .returned (.agg T) ∧ Below w1.heap.size w1 w') := ⟨fun w1 => by rw [← HT.out]; exact rmake.make_any w1⟩
  have hb50 : b.size ≤ 1125899906842624 := by omega
  have RU : Away (∀ w1 : World, Calls Tryd.prog 9 #[.agg T, .string b] w1 fun e w' => e = .returned (.agg (FL .i64 256 (dU b))) ∧ Below w1.heap.size w1 w') := ⟨fun w1 => rsdoc.uniform b w1 hkt hb50⟩
  have RS : Away (∀ w1 : World, Calls Tryd.prog 11 #[.agg T, .string b, .int .i64 n0] w1 fun e w' => e = .returned (.agg (FL .i64 256 (dS b n0))) ∧ Below w1.heap.size w1 w') := ⟨fun w1 => rsdoc.small b n0 w1 hkt hb50⟩
  have RB : Away (∀ w1 : World, Calls Tryd.prog 13 #[.agg T, .string b, .int .i64 n1] w1 fun e w' => e = .returned (.agg (FL .i64 256 (dB b n1))) ∧ Below w1.heap.size w1 w') := ⟨fun w1 => rsdoc.ball b n1 w1 hkt hb50⟩
  obtain ⟨U, HU_⟩ := ex_eq (FL .i64 256 (dU b))
  have eU : ∀ w1 : World, (binOp .eql 36 (.agg U) (.agg U)).run Tryd.prog w1 = .ok (.bool true) w1 := fun w1 => by
    rw [← HU_.out, eq_poly, (same_iff 256 _ _).2 (fun _ _ => rfl)]
  obtain ⟨V, HV⟩ := ex_eq (FL .i64 256 (dS b n0))
  have eV : ∀ w1 : World, (binOp .eql 36 (.agg V) (.agg V)).run Tryd.prog w1 = .ok (.bool true) w1 := fun w1 => by
    rw [← HV.out, eq_poly, (same_iff 256 _ _).2 (fun _ _ => rfl)]
  obtain ⟨X, HX⟩ := ex_eq (FL .i64 256 (dB b n1))
  have eX : ∀ w1 : World, (binOp .eql 36 (.agg X) (.agg X)).run Tryd.prog w1 = .ok (.bool true) w1 := fun w1 => by
    rw [← HX.out, eq_poly, (same_iff 256 _ _).2 (fun _ _ => rfl)]
  rw [HU_.out] at HU RU
  rw [HV.out] at HS RS
  rw [HX.out] at HB RB
  have HU := Away.mk HU
  have HS := Away.mk HS
  have HB := Away.mk HB
  have HA := Away.mk HA
  obtain ⟨W0, hW0⟩ : ∃ x, w.alloc (.cells #[.int .i64 n0, .int .i64 n1] 22) = x := ⟨_, rfl⟩
  obtain ⟨r0, hs0, b0⟩ := one hW0
  have R0 := Away.mk r0
  have B0 := Away.mk b0
  have HW0 := Away.mk hW0
  have hbz : ¬ (400 : Int) < (b.size : Int) := by omega
  clear hsize hP HT HZ hkt hb50 r0 hs0 b0 hW0 hb HU_ HV HX
  go_enter Tryd.func3, Tryd.ntmps3
  go_wp2_with (rw [HW0.out])
  refine (Hmk.out _).mono ?_
  rintro e w1 ⟨rfl, hb1⟩
  obtain ⟨W1, hW1⟩ : ∃ x, w1.alloc (.cells T 34) = x := ⟨_, rfl⟩
  obtain ⟨r1, hs1, b1⟩ := one hW1
  have HW1 := Away.mk hW1
  have D1 : Away (Below W0.heap.size W0 W1) := ⟨hb1.trans (b1.mono hb1.size)⟩
  have KT : Away (∀ w' : World, Below W1.heap.size W1 w' → w'.heap[w1.heap.size]? = some (.cells T 34 (0, 0))) := ⟨fun w' hb => (hb.block _ (lt_of_row r1)).trans r1⟩
  have N0 : Away (∀ w' : World, Below W1.heap.size W1 w' → w'.cell? ⟨w.heap.size, 0, none⟩ = some (.int .i64 n0)) := ⟨fun w' hb => by
    have h6 := (D1.out.block _ (lt_of_row R0.out)).trans R0.out
    exact cell_at ((hb.block _ (lt_of_row h6)).trans h6) rfl⟩
  have N1 : Away (∀ w' : World, Below W1.heap.size W1 w' → w'.cell? ⟨w.heap.size, 1, none⟩ = some (.int .i64 n1)) := ⟨fun w' hb => by
    have h6 := (D1.out.block _ (lt_of_row R0.out)).trans R0.out
    exact cell_at ((hb.block _ (lt_of_row h6)).trans h6) rfl⟩
  have B1 : Away (Below w.heap.size w W1) := ⟨B0.out.trans (D1.out.mono B0.out.size)⟩
  clear hb1 hW1 r1 hs1 b1 D1 R0
  go_wp2_with (first
    | (refine wpList_store_new rfl 34 _ _ rfl _ rfl rfl HTz.out (by rw [HTs.out]; exact HZs.out) HTo.out rfl ?_)
    | (rw [HW1.out]))
  refine hk_begin W1.heap.size 37 [0, 1, 3, 4, 2, 5, 6, 7, 8, 9, 10, 11, 13, 14, 15, 16, 12, 17, 18, 19, 20, 21, 22, 23, 24, 26, 27, 28, 29, 25, 30, 31, 32, 33, 34, 35, 36] (by kernel_rfl) rfl rfl (by decide) (fun hS ops HO => ?_)
  simp only [List.filterMap_cons, List.filterMap_nil, List.getElem?_cons_succ, List.getElem?_cons_zero]
  refine hk_load (by rw [← HO.out]; kernel_rfl) (by rw [← HO.out]; kernel_rfl) (by rw [← HO.out]; kernel_rfl) (by rw [← HO.out]; kernel_rfl) (fun _ _ _ _ h => h) 34 _ rfl w1.heap.size rfl 34 T _ KT.out Tryd.underlying34 rfl HTz.out hS ?_
  simp only [Act.put, List.setIfInBounds_toArray, List.set_cons_zero, List.set_cons_succ]
  (focus (refine hk_take (v := ?_) (by rw [← HO.out]; kernel_rfl) (by rw [← HO.out]; kernel_rfl) (by rw [← HO.out]; kernel_rfl) (by rw [← HO.out]; kernel_rfl) (fun _ _ _ h => h) ?_ hS ?_; rotate_left; focus (intro w9 h9; go_simp; first | done | with_reducible rfl); all_goals skip))
  simp only [Act.put, List.setIfInBounds_toArray, List.set_cons_zero, List.set_cons_succ]
  refine hk_load (by rw [← HO.out]; kernel_rfl) (by rw [← HO.out]; kernel_rfl) (by rw [← HO.out]; kernel_rfl) (by rw [← HO.out]; kernel_rfl) (fun _ _ _ _ h => h) 34 _ rfl w1.heap.size rfl 34 T _ KT.out Tryd.underlying34 rfl HTz.out hS ?_
  simp only [Act.put, List.setIfInBounds_toArray, List.set_cons_zero, List.set_cons_succ]
  (focus (refine hk_take (v := ?_) (by rw [← HO.out]; kernel_rfl) (by rw [← HO.out]; kernel_rfl) (by rw [← HO.out]; kernel_rfl) (by rw [← HO.out]; kernel_rfl) (fun _ _ _ h => h) ?_ hS ?_; rotate_left; focus (intro w9 h9; go_simp; first | done | with_reducible rfl); all_goals skip))
  simp only [Act.put, List.setIfInBounds_toArray, List.set_cons_zero, List.set_cons_succ]
  refine hk_step (by rw [← HO.out]; kernel_rfl) (by rw [← HO.out]; kernel_rfl) (fun K hK => ?_)
  go_simp
  refine (HU.out _ (HP.out.later (B1.out.trans (hS.mono B1.out.size)))).mono ?_
  rintro e x1 ⟨rfl, hb1⟩
  have h1 : Below W1.heap.size W1 x1 := hS.trans (hb1.mono hS.size)
  refine hK _ _ h1 ?_
  clear hK K
  refine hk_step (by rw [← HO.out]; kernel_rfl) (by rw [← HO.out]; kernel_rfl) (fun K hK => ?_)
  go_simp
  refine (RU.out _).mono ?_
  rintro e x2 ⟨rfl, hb2⟩
  have h2 : Below W1.heap.size W1 x2 := h1.trans (hb2.mono h1.size)
  refine hK _ _ h2 ?_
  clear hK K
  (focus (refine hk_take (v := ?_) (by rw [← HO.out]; kernel_rfl) (by rw [← HO.out]; kernel_rfl) (by rw [← HO.out]; kernel_rfl) (by rw [← HO.out]; kernel_rfl) (fun _ _ _ h => h) ?_ h2 ?_; rotate_left; focus (intro w9 h9; go_simp; first | done | with_reducible rfl); all_goals skip))
  simp only [Act.put, List.setIfInBounds_toArray, List.set_cons_zero, List.set_cons_succ]
  (focus (refine hk_take (v := ?_) (by rw [← HO.out]; kernel_rfl) (by rw [← HO.out]; kernel_rfl) (by rw [← HO.out]; kernel_rfl) (by rw [← HO.out]; kernel_rfl) (fun _ _ _ h => h) ?_ h2 ?_; rotate_left; focus (intro w9 h9; go_simp; first | done | with_reducible rfl); all_goals skip))
  simp only [Act.put, List.setIfInBounds_toArray, List.set_cons_zero, List.set_cons_succ]
  refine hk_load (by rw [← HO.out]; kernel_rfl) (by rw [← HO.out]; kernel_rfl) (by rw [← HO.out]; kernel_rfl) (by rw [← HO.out]; kernel_rfl) (fun _ _ _ _ h => h) 34 _ rfl w1.heap.size rfl 34 T _ KT.out Tryd.underlying34 rfl HTz.out h2 ?_
  simp only [Act.put, List.setIfInBounds_toArray, List.set_cons_zero, List.set_cons_succ]
  (focus (refine hk_take (v := ?_) (by rw [← HO.out]; kernel_rfl) (by rw [← HO.out]; kernel_rfl) (by rw [← HO.out]; kernel_rfl) (by rw [← HO.out]; kernel_rfl) (fun _ _ _ h => h) ?_ h2 ?_; rotate_left; focus (intro w9 h9; go_simp; first | done | with_reducible rfl); all_goals skip))
  simp only [Act.put, List.setIfInBounds_toArray, List.set_cons_zero, List.set_cons_succ]
  (focus (refine hk_take (v := ?_) (by rw [← HO.out]; kernel_rfl) (by rw [← HO.out]; kernel_rfl) (by rw [← HO.out]; kernel_rfl) (by rw [← HO.out]; kernel_rfl) (fun _ _ _ h => h) ?_ h2 ?_; rotate_left; focus (intro w9 h9; go_simp; first | done | with_reducible rfl); all_goals skip))
  simp only [Act.put, List.setIfInBounds_toArray, List.set_cons_zero, List.set_cons_succ]
  (focus (refine hk_take (v := ?_) (by rw [← HO.out]; kernel_rfl) (by rw [← HO.out]; kernel_rfl) (by rw [← HO.out]; kernel_rfl) (by rw [← HO.out]; kernel_rfl) (fun _ _ _ h => h) ?_ h2 ?_; rotate_left; focus (intro w9 h9; have hc := N0.out w9 h9; go_simp; first | done | with_reducible rfl); all_goals skip))
  simp only [Act.put, List.setIfInBounds_toArray, List.set_cons_zero, List.set_cons_succ]
  refine hk_load (by rw [← HO.out]; kernel_rfl) (by rw [← HO.out]; kernel_rfl) (by rw [← HO.out]; kernel_rfl) (by rw [← HO.out]; kernel_rfl) (fun _ _ _ _ h => h) 34 _ rfl w1.heap.size rfl 34 T _ KT.out Tryd.underlying34 rfl HTz.out h2 ?_
  simp only [Act.put, List.setIfInBounds_toArray, List.set_cons_zero, List.set_cons_succ]
  (focus (refine hk_take (v := ?_) (by rw [← HO.out]; kernel_rfl) (by rw [← HO.out]; kernel_rfl) (by rw [← HO.out]; kernel_rfl) (by rw [← HO.out]; kernel_rfl) (fun _ _ _ h => h) ?_ h2 ?_; rotate_left; focus (intro w9 h9; go_simp; first | done | with_reducible rfl); all_goals skip))
  simp only [Act.put, List.setIfInBounds_toArray, List.set_cons_zero, List.set_cons_succ]
  (focus (refine hk_take (v := ?_) (by rw [← HO.out]; kernel_rfl) (by rw [← HO.out]; kernel_rfl) (by rw [← HO.out]; kernel_rfl) (by rw [← HO.out]; kernel_rfl) (fun _ _ _ h => h) ?_ h2 ?_; rotate_left; focus (intro w9 h9; go_simp; first | done | with_reducible rfl); all_goals skip))
  simp only [Act.put, List.setIfInBounds_toArray, List.set_cons_zero, List.set_cons_succ]
  (focus (refine hk_take (v := ?_) (by rw [← HO.out]; kernel_rfl) (by rw [← HO.out]; kernel_rfl) (by rw [← HO.out]; kernel_rfl) (by rw [← HO.out]; kernel_rfl) (fun _ _ _ h => h) ?_ h2 ?_; rotate_left; focus (intro w9 h9; have hc := N0.out w9 h9; go_simp; first | done | with_reducible rfl); all_goals skip))
  simp only [Act.put, List.setIfInBounds_toArray, List.set_cons_zero, List.set_cons_succ]
  refine hk_step (by rw [← HO.out]; kernel_rfl) (by rw [← HO.out]; kernel_rfl) (fun K hK => ?_)
  go_simp
  refine (HS.out _ (HP.out.later (B1.out.trans (h2.mono B1.out.size)))).mono ?_
  rintro e x3 ⟨rfl, hb3⟩
  have h3 : Below W1.heap.size W1 x3 := h2.trans (hb3.mono h2.size)
  refine hK _ _ h3 ?_
  clear hK K
  refine hk_step (by rw [← HO.out]; kernel_rfl) (by rw [← HO.out]; kernel_rfl) (fun K hK => ?_)
  go_simp
  refine (RS.out _).mono ?_
  rintro e x4 ⟨rfl, hb4⟩
  have h4 : Below W1.heap.size W1 x4 := h3.trans (hb4.mono h3.size)
  refine hK _ _ h4 ?_
  clear hK K
  (focus (refine hk_take (v := ?_) (by rw [← HO.out]; kernel_rfl) (by rw [← HO.out]; kernel_rfl) (by rw [← HO.out]; kernel_rfl) (by rw [← HO.out]; kernel_rfl) (fun _ _ _ h => h) ?_ h4 ?_; rotate_left; focus (intro w9 h9; go_simp; first | done | with_reducible rfl); all_goals skip))
  simp only [Act.put, List.setIfInBounds_toArray, List.set_cons_zero, List.set_cons_succ]
  (focus (refine hk_take (v := ?_) (by rw [← HO.out]; kernel_rfl) (by rw [← HO.out]; kernel_rfl) (by rw [← HO.out]; kernel_rfl) (by rw [← HO.out]; kernel_rfl) (fun _ _ _ h => h) ?_ h4 ?_; rotate_left; focus (intro w9 h9; go_simp; first | done | with_reducible rfl); all_goals skip))
  simp only [Act.put, List.setIfInBounds_toArray, List.set_cons_zero, List.set_cons_succ]
  (focus (refine hk_take (v := ?_) (by rw [← HO.out]; kernel_rfl) (by rw [← HO.out]; kernel_rfl) (by rw [← HO.out]; kernel_rfl) (by rw [← HO.out]; kernel_rfl) (fun _ _ _ h => h) ?_ h4 ?_; rotate_left; focus (intro w9 h9; go_simp; first | done | with_reducible rfl); all_goals skip))
  simp only [Act.put, List.setIfInBounds_toArray, List.set_cons_zero, List.set_cons_succ]
  refine hk_load (by rw [← HO.out]; kernel_rfl) (by rw [← HO.out]; kernel_rfl) (by rw [← HO.out]; kernel_rfl) (by rw [← HO.out]; kernel_rfl) (fun _ _ _ _ h => h) 34 _ rfl w1.heap.size rfl 34 T _ KT.out Tryd.underlying34 rfl HTz.out h4 ?_
  simp only [Act.put, List.setIfInBounds_toArray, List.set_cons_zero, List.set_cons_succ]
  (focus (refine hk_take (v := ?_) (by rw [← HO.out]; kernel_rfl) (by rw [← HO.out]; kernel_rfl) (by rw [← HO.out]; kernel_rfl) (by rw [← HO.out]; kernel_rfl) (fun _ _ _ h => h) ?_ h4 ?_; rotate_left; focus (intro w9 h9; go_simp; first | done | with_reducible rfl); all_goals skip))
  simp only [Act.put, List.setIfInBounds_toArray, List.set_cons_zero, List.set_cons_succ]
  (focus (refine hk_take (v := ?_) (by rw [← HO.out]; kernel_rfl) (by rw [← HO.out]; kernel_rfl) (by rw [← HO.out]; kernel_rfl) (by rw [← HO.out]; kernel_rfl) (fun _ _ _ h => h) ?_ h4 ?_; rotate_left; focus (intro w9 h9; go_simp; first | done | with_reducible rfl); all_goals skip))
  simp only [Act.put, List.setIfInBounds_toArray, List.set_cons_zero, List.set_cons_succ]
  (focus (refine hk_take (v := ?_) (by rw [← HO.out]; kernel_rfl) (by rw [← HO.out]; kernel_rfl) (by rw [← HO.out]; kernel_rfl) (by rw [← HO.out]; kernel_rfl) (fun _ _ _ h => h) ?_ h4 ?_; rotate_left; focus (intro w9 h9; have hc := N1.out w9 h9; go_simp; first | done | with_reducible rfl); all_goals skip))
  simp only [Act.put, List.setIfInBounds_toArray, List.set_cons_zero, List.set_cons_succ]
  refine hk_load (by rw [← HO.out]; kernel_rfl) (by rw [← HO.out]; kernel_rfl) (by rw [← HO.out]; kernel_rfl) (by rw [← HO.out]; kernel_rfl) (fun _ _ _ _ h => h) 34 _ rfl w1.heap.size rfl 34 T _ KT.out Tryd.underlying34 rfl HTz.out h4 ?_
  simp only [Act.put, List.setIfInBounds_toArray, List.set_cons_zero, List.set_cons_succ]
  (focus (refine hk_take (v := ?_) (by rw [← HO.out]; kernel_rfl) (by rw [← HO.out]; kernel_rfl) (by rw [← HO.out]; kernel_rfl) (by rw [← HO.out]; kernel_rfl) (fun _ _ _ h => h) ?_ h4 ?_; rotate_left; focus (intro w9 h9; go_simp; first | done | with_reducible rfl); all_goals skip))
  simp only [Act.put, List.setIfInBounds_toArray, List.set_cons_zero, List.set_cons_succ]
  (focus (refine hk_take (v := ?_) (by rw [← HO.out]; kernel_rfl) (by rw [← HO.out]; kernel_rfl) (by rw [← HO.out]; kernel_rfl) (by rw [← HO.out]; kernel_rfl) (fun _ _ _ h => h) ?_ h4 ?_; rotate_left; focus (intro w9 h9; go_simp; first | done | with_reducible rfl); all_goals skip))
  simp only [Act.put, List.setIfInBounds_toArray, List.set_cons_zero, List.set_cons_succ]
  (focus (refine hk_take (v := ?_) (by rw [← HO.out]; kernel_rfl) (by rw [← HO.out]; kernel_rfl) (by rw [← HO.out]; kernel_rfl) (by rw [← HO.out]; kernel_rfl) (fun _ _ _ h => h) ?_ h4 ?_; rotate_left; focus (intro w9 h9; have hc := N1.out w9 h9; go_simp; first | done | with_reducible rfl); all_goals skip))
  simp only [Act.put, List.setIfInBounds_toArray, List.set_cons_zero, List.set_cons_succ]
  refine hk_step (by rw [← HO.out]; kernel_rfl) (by rw [← HO.out]; kernel_rfl) (fun K hK => ?_)
  go_simp
  refine (HB.out _ (HP.out.later (B1.out.trans (h4.mono B1.out.size)))).mono ?_
  rintro e x5 ⟨rfl, hb5⟩
  have h5 : Below W1.heap.size W1 x5 := h4.trans (hb5.mono h4.size)
  refine hK _ _ h5 ?_
  clear hK K
  refine hk_step (by rw [← HO.out]; kernel_rfl) (by rw [← HO.out]; kernel_rfl) (fun K hK => ?_)
  go_simp
  refine (RB.out _).mono ?_
  rintro e x6 ⟨rfl, hb6⟩
  have h6 : Below W1.heap.size W1 x6 := h5.trans (hb6.mono h5.size)
  refine hK _ _ h6 ?_
  clear hK K
  (focus (refine hk_take (v := ?_) (by rw [← HO.out]; kernel_rfl) (by rw [← HO.out]; kernel_rfl) (by rw [← HO.out]; kernel_rfl) (by rw [← HO.out]; kernel_rfl) (fun _ _ _ h => h) ?_ h6 ?_; rotate_left; focus (intro w9 h9; go_simp; first | done | with_reducible rfl); all_goals skip))
  simp only [Act.put, List.setIfInBounds_toArray, List.set_cons_zero, List.set_cons_succ]
  (focus (refine hk_take (v := ?_) (by rw [← HO.out]; kernel_rfl) (by rw [← HO.out]; kernel_rfl) (by rw [← HO.out]; kernel_rfl) (by rw [← HO.out]; kernel_rfl) (fun _ _ _ h => h) ?_ h6 ?_; rotate_left; focus (intro w9 h9; go_simp; first | done | with_reducible rfl); all_goals skip))
  simp only [Act.put, List.setIfInBounds_toArray, List.set_cons_zero, List.set_cons_succ]
  (focus (refine hk_take (v := ?_) (by rw [← HO.out]; kernel_rfl) (by rw [← HO.out]; kernel_rfl) (by rw [← HO.out]; kernel_rfl) (by rw [← HO.out]; kernel_rfl) (fun _ _ _ h => h) ?_ h6 ?_; rotate_left; focus (intro w9 h9; go_simp; first | done | with_reducible rfl); all_goals skip))
  simp only [Act.put, List.setIfInBounds_toArray, List.set_cons_zero, List.set_cons_succ]
  refine hk_step (by rw [← HO.out]; kernel_rfl) (by rw [← HO.out]; kernel_rfl) (fun K hK => ?_)
  go_simp
  refine (HA.out _ (HP.out.later (B1.out.trans (h6.mono B1.out.size)))).mono ?_
  rintro e x7 ⟨rfl, hb7⟩
  have h7 : Below W1.heap.size W1 x7 := h6.trans (hb7.mono h6.size)
  refine hK _ _ h7 ?_
  clear hK K
  (focus (refine hk_take (v := ?_) (by rw [← HO.out]; kernel_rfl) (by rw [← HO.out]; kernel_rfl) (by rw [← HO.out]; kernel_rfl) (by rw [← HO.out]; kernel_rfl) (fun _ _ _ h => h) ?_ h7 ?_; rotate_left; focus (intro w9 h9; go_simp; first | done | with_reducible rfl); all_goals skip))
  simp only [Act.put, List.setIfInBounds_toArray, List.set_cons_zero, List.set_cons_succ]
  (focus (refine hk_take (v := ?_) (by rw [← HO.out]; kernel_rfl) (by rw [← HO.out]; kernel_rfl) (by rw [← HO.out]; kernel_rfl) (by rw [← HO.out]; kernel_rfl) (fun _ _ _ h => h) ?_ h7 ?_; rotate_left; focus (intro w9 h9; go_simp; first | done | with_reducible rfl); all_goals skip))
  simp only [Act.put, List.setIfInBounds_toArray, List.set_cons_zero, List.set_cons_succ]
  refine hk_nil (by rw [← HO.out]; kernel_rfl) ?_
  go_wp2_with fail
  go_ret
  exact ⟨rfl, B1.out.trans (h7.mono B1.out.size)⟩
end Go.Proofs.YtjdcmnmnjkkpiaaDoor.says11
