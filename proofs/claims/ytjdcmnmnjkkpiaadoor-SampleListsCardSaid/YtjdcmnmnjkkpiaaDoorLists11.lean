/-
  SampleLists, the near case (P11.4 to P11.6), with what the functions return handed in. Conditions: keccak's variable 'places' holds what the program's text lays there.
-/
import Derived.Test.YtjdcmnmnjkkpiaaDoorQD
import Derived.Test.YtjdcmnmnjkkpiaaDoorPuA
import Derived.Test.YtjdcmnmnjkkpiaaDoorRTm
import Derived.Test.YtjdcmnmnjkkpiaaDoorKq
namespace Go.Proofs.YtjdcmnmnjkkpiaaDoor.lists11
set_option linter.unusedSimpArgs false
open Go Go.RowKit
open Go.Proofs.YtjdcmnmnjkkpiaaDoor.mem Go.Proofs.YtjdcmnmnjkkpiaaDoor.arr Go.Proofs.YtjdcmnmnjkkpiaaDoor.tabv Go.Proofs.YtjdcmnmnjkkpiaaDoor.built Go.Proofs.YtjdcmnmnjkkpiaaDoor.kturn Go.Proofs.YtjdcmnmnjkkpiaaDoor.polys Go.Proofs.YtjdcmnmnjkkpiaaDoor.polt Go.Proofs.YtjdcmnmnjkkpiaaDoor.pols Go.Proofs.YtjdcmnmnjkkpiaaDoor.saml Go.Proofs.YtjdcmnmnjkkpiaaDoor.samr Go.Proofs.YtjdcmnmnjkkpiaaDoor.lsl11 Go.Proofs.YtjdcmnmnjkkpiaaDoor.helda

theorem own_is {w : World} {B e n : Nat} {v : Value} {vs : List Value} (h : w.ownsRow B e 1 v n vs) : ∃ a c, v = .slice a n c := by
  rcases h.2 with ⟨rfl, rfl⟩ | ⟨g, c, cur, rfl, -⟩
  · exact ⟨_, _, rfl⟩
  · exact ⟨_, _, rfl⟩
set_option maxRecDepth 100000 in
set_option maxHeartbeats 4000000 in
theorem near (L : Array Value) (b : ByteArray) (fr : Int) (kn ln m1 m2 m3 : Nat) (qx : Nat → Nat → Nat → Int) (q1 q2 q3 : Nat → Nat → Int) (w : World) (hb : b.size ≤ 400) (hP : Gp w) (hL : (Tryd.prog.info? 41).map (·.size) = some L.size) (hkn : kn ≤ 8) (hln : 0 < kn → 1 ≤ ln ∧ ln ≤ 8)
    (HM : ∀ w1 : World, Gp w1 → Calls Tryd.prog 14 #[.agg TA, .agg L, .string b] w1 fun e w' => (∃ v vs, e = .returned v ∧ w'.ownsRow w1.heap.size 44 1 v kn vs ∧ Rowl w' w1.heap.size v.ownBlock vs ln qx) ∧ Below w1.heap.size w1 w')
    (RM : ∀ w1 : World, Calls Tryd.prog 15 #[.agg TA, .agg L, .string b] w1 fun e w' => (∃ v vs, e = .returned v ∧ w'.ownsRow w1.heap.size 44 1 v kn vs ∧ Rowl w' w1.heap.size v.ownBlock vs ln qx) ∧ Below w1.heap.size w1 w')
    (HC : ∀ w1 : World, Gp w1 → Calls Tryd.prog 16 #[.agg TA, .agg L, .string b] w1 fun e w' => (∃ v1 v2, e = .returned (.tuple #[v1, v2]) ∧ SL w' v1 m1 q1 ∧ SL w' v2 m2 q2) ∧ Below w1.heap.size w1 w')
    (RC : ∀ w1 : World, Calls Tryd.prog 17 #[.agg TA, .agg L, .string b] w1 fun e w' => (∃ v1 v2, e = .returned (.tuple #[v1, v2]) ∧ SL w' v1 m1 q1 ∧ SL w' v2 m2 q2) ∧ Below w1.heap.size w1 w')
    (HK : ∀ w1 : World, Gp w1 → Calls Tryd.prog 19 #[.agg TA, .agg L, .string b, .int .i64 fr] w1 fun e w' => (∃ v, e = .returned v ∧ SL w' v m3 q3) ∧ Below w1.heap.size w1 w')
    (RK : ∀ w1 : World, Calls Tryd.prog 20 #[.agg TA, .agg L, .string b, .int .i64 fr] w1 fun e w' => (∃ v, e = .returned v ∧ SL w' v m3 q3) ∧ Below w1.heap.size w1 w')
    (HA : ∀ w1 : World, Gp w1 → Calls Tryd.prog 6 #[] w1 fun e w' => e = .returned (.bool true) ∧ Below w1.heap.size w1 w') :
    Calls Tryd.prog 4 #[.agg L, .string b, .int .i64 fr] w fun e w' => e = .returned (.bool true) ∧ Below w.heap.size w w' := by
  have HP := Away.mk hP
  obtain ⟨hz, hsize⟩ := zero_of_info built.infoT
  obtain ⟨Zt, HZ⟩ := ex_eq TZ
  rw [HZ.out] at hz
  have HZs : Away (Zt.size = 465) := ⟨by rw [← HZ.out]; exact tz_size⟩
  have Hsize := Away.mk hsize
  obtain ⟨T, HT⟩ := ex_eq TA
  rw [HT.out] at HM RM HC RC HK RK
  have HTs : Away (T.size = 465) := ⟨by rw [← HT.out]; exact ta_size⟩
  have HTo : Away (T.all (·.oneCell') = true) := ⟨by rw [← HT.out]; exact ta_one⟩
  have HTz : Away ((Tryd.prog.info? 34).map (·.size) = some T.size) := ⟨by rw [HTs.out]; exact Hsize.out⟩
  have Hmk : Away (∀ w1 : World, Calls Tryd.prog 7 #[] w1 fun e w' => e = .returned (.agg T) ∧ Below w1.heap.size w1 w') := ⟨fun w1 => by rw [← HT.out]; exact rmake.make_any w1⟩
  have HM := Away.mk HM
  have RM := Away.mk RM
  have HC := Away.mk HC
  have RC := Away.mk RC
  have HK := Away.mk HK
  have RK := Away.mk RK
  have HA := Away.mk HA
  have HLz := Away.mk hL
  have Hkn := Away.mk hkn
  have Hln := Away.mk hln
  obtain ⟨W0, hW0⟩ : ∃ x, w.alloc (.cells L 41) = x := ⟨_, rfl⟩
  obtain ⟨r0, hs0, b0⟩ := one hW0
  have R0 := Away.mk r0
  have B0 := Away.mk b0
  have HW0 := Away.mk hW0
  have hbz : ¬ (400 : Int) < (b.size : Int) := by omega
  clear hsize hP HT HZ r0 hs0 b0 hW0 hb hL hkn hln
  go_enter Tryd.func4, Tryd.ntmps4
  go_wp2_with (rw [HW0.out])
  refine (Hmk.out _).mono ?_
  rintro e w1 ⟨rfl, hb1⟩
  obtain ⟨W1, hW1⟩ : ∃ x, w1.alloc (.cells T 34) = x := ⟨_, rfl⟩
  obtain ⟨r1, hs1, b1⟩ := one hW1
  have HW1 := Away.mk hW1
  have D1 : Away (Below W0.heap.size W0 W1) := ⟨hb1.trans (b1.mono hb1.size)⟩
  have T1 := Away.mk r1
  have L1 : Away (W1.heap[w.heap.size]? = some (.cells L 41 (0, 0))) := ⟨(D1.out.block _ (lt_of_row R0.out)).trans R0.out⟩
  have B1 : Away (Below w.heap.size w W1) := ⟨B0.out.trans (D1.out.mono B0.out.size)⟩
  clear hb1 hW1 r1 hs1 b1 D1 R0
  have KTS : Away (∀ w' : World, Below W1.heap.size W1 w' → w'.heap[w1.heap.size]? = some (.cells T 34 (0, 0))) := ⟨fun w' hb => (hb.block _ (by have := (Below.refl W1.heap.size W1).size; have := lt_of_row T1.out; omega)).trans (((Below.refl W1.heap.size W1).block _ (lt_of_row T1.out)).trans T1.out)⟩
  have KLS : Away (∀ w' : World, Below W1.heap.size W1 w' → w'.heap[w.heap.size]? = some (.cells L 41 (0, 0))) := ⟨fun w' hb => (hb.block _ (by have := (Below.refl W1.heap.size W1).size; have := lt_of_row L1.out; omega)).trans (((Below.refl W1.heap.size W1).block _ (lt_of_row L1.out)).trans L1.out)⟩
  go_wp2_with (first
    | (refine wpList_store_new rfl 34 _ _ rfl _ rfl rfl HTz.out (by rw [HTs.out]; exact HZs.out) HTo.out rfl ?_)
    | (rw [HW1.out]))
  refine hk_begin W1.heap.size 10 [0, 1, 2, 4, 5, 6, 3, 7, 8, 9] (by kernel_rfl) rfl rfl (by decide) (fun hS ops HO => ?_)
  simp only [List.filterMap_cons, List.filterMap_nil, List.getElem?_cons_succ, List.getElem?_cons_zero]
  refine hk_load (by rw [← HO.out]; kernel_rfl) (by rw [← HO.out]; kernel_rfl) (by rw [← HO.out]; kernel_rfl) (by rw [← HO.out]; kernel_rfl) (fun _ _ _ _ h => h) 34 _ rfl w1.heap.size rfl 34 T _ KTS.out Tryd.underlying34 rfl HTz.out hS ?_
  simp only [Act.put, List.setIfInBounds_toArray, List.set_cons_zero, List.set_cons_succ]
  refine hk_load (by rw [← HO.out]; kernel_rfl) (by rw [← HO.out]; kernel_rfl) (by rw [← HO.out]; kernel_rfl) (by rw [← HO.out]; kernel_rfl) (fun _ _ _ _ h => h) 41 _ rfl w.heap.size rfl 41 L _ KLS.out Tryd.underlying41 rfl HLz.out hS ?_
  simp only [Act.put, List.setIfInBounds_toArray, List.set_cons_zero, List.set_cons_succ]
  (focus (refine hk_take (v := ?_) (by rw [← HO.out]; kernel_rfl) (by rw [← HO.out]; kernel_rfl) (by rw [← HO.out]; kernel_rfl) (by rw [← HO.out]; kernel_rfl) (fun _ _ _ h => h) ?_ hS ?_; rotate_left; focus (intro w9 h9; go_simp; first | done | with_reducible rfl); all_goals skip))
  simp only [Act.put, List.setIfInBounds_toArray, List.set_cons_zero, List.set_cons_succ]
  refine hk_load (by rw [← HO.out]; kernel_rfl) (by rw [← HO.out]; kernel_rfl) (by rw [← HO.out]; kernel_rfl) (by rw [← HO.out]; kernel_rfl) (fun _ _ _ _ h => h) 34 _ rfl w1.heap.size rfl 34 T _ KTS.out Tryd.underlying34 rfl HTz.out hS ?_
  simp only [Act.put, List.setIfInBounds_toArray, List.set_cons_zero, List.set_cons_succ]
  refine hk_load (by rw [← HO.out]; kernel_rfl) (by rw [← HO.out]; kernel_rfl) (by rw [← HO.out]; kernel_rfl) (by rw [← HO.out]; kernel_rfl) (fun _ _ _ _ h => h) 41 _ rfl w.heap.size rfl 41 L _ KLS.out Tryd.underlying41 rfl HLz.out hS ?_
  simp only [Act.put, List.setIfInBounds_toArray, List.set_cons_zero, List.set_cons_succ]
  (focus (refine hk_take (v := ?_) (by rw [← HO.out]; kernel_rfl) (by rw [← HO.out]; kernel_rfl) (by rw [← HO.out]; kernel_rfl) (by rw [← HO.out]; kernel_rfl) (fun _ _ _ h => h) ?_ hS ?_; rotate_left; focus (intro w9 h9; go_simp; first | done | with_reducible rfl); all_goals skip))
  simp only [Act.put, List.setIfInBounds_toArray, List.set_cons_zero, List.set_cons_succ]
  refine hk_step (by rw [← HO.out]; kernel_rfl) (by rw [← HO.out]; kernel_rfl) (fun K hK => ?_)
  go_simp
  refine (HM.out _ (HP.out.later (B1.out.trans (hS.mono B1.out.size)))).mono ?_
  rintro e w2 ⟨⟨va, vs, rfl, Oa, Ra⟩, hb2⟩
  have h2 : Below W1.heap.size W1 w2 := hS.trans (hb2.mono hS.size)
  refine hK _ _ h2 ?_
  clear hK K
  refine hk_step (by rw [← HO.out]; kernel_rfl) (by rw [← HO.out]; kernel_rfl) (fun K hK => ?_)
  go_simp
  refine (RM.out _).mono ?_
  rintro e w3 ⟨⟨vb, us, rfl, Ob, Rb⟩, hb3⟩
  have h3 : Below W1.heap.size W1 w3 := h2.trans (hb3.mono h2.size)
  have Oa3 := Away.mk (polt.own_later Oa hb3)
  have Ra3 := Away.mk (Ra.later hb3)
  obtain ⟨aa, ca, rfl⟩ := own_is Oa
  obtain ⟨ab, cb, rfl⟩ := own_is Ob
  have Ob3 := Away.mk Ob
  have Rb3 := Away.mk Rb
  clear Oa Ra Ob Rb hb2 hb3 h2
  refine hK _ _ h3 ?_
  clear hK K
  (focus (refine hk_take (v := ?_) (by rw [← HO.out]; kernel_rfl) (by rw [← HO.out]; kernel_rfl) (by rw [← HO.out]; kernel_rfl) (by rw [← HO.out]; kernel_rfl) (fun _ _ _ h => h) ?_ h3 ?_; rotate_left; focus (intro w9 h9; go_simp; first | done | with_reducible rfl); all_goals skip))
  simp only [Act.put, List.setIfInBounds_toArray, List.set_cons_zero, List.set_cons_succ]
  (focus (refine hk_take (v := ?_) (by rw [← HO.out]; kernel_rfl) (by rw [← HO.out]; kernel_rfl) (by rw [← HO.out]; kernel_rfl) (by rw [← HO.out]; kernel_rfl) (fun _ _ _ h => h) ?_ h3 ?_; rotate_left; focus (intro w9 h9; go_simp; first | done | with_reducible rfl); all_goals skip))
  simp only [Act.put, List.setIfInBounds_toArray, List.set_cons_zero, List.set_cons_succ]
  refine hk_nil (by rw [← HO.out]; kernel_rfl) ?_
  have T3 : Away (w3.heap[w1.heap.size]? = some (.cells T 34 (0, 0))) := ⟨KTS.out w3 h3⟩
  have L3 : Away (w3.heap[w.heap.size]? = some (.cells L 41 (0, 0))) := ⟨KLS.out w3 h3⟩
  have B3 : Away (Below w.heap.size w w3) := ⟨B1.out.trans (h3.mono B1.out.size)⟩
  have H3 := Away.mk h3
  clear hS h3 HO
  go_wp2_with (first
    | (refine wpList_load_row rfl 34 _ rfl w1.heap.size rfl 34 T (0, 0) _ T3.out Tryd.underlying34 rfl HTz.out ?_)
    | (refine wpList_load_row rfl 41 _ rfl w.heap.size rfl 41 L (0, 0) _ L3.out Tryd.underlying41 rfl HLz.out ?_))
  refine (HC.out _ (HP.out.later B3.out)).mono ?_
  rintro e w4 ⟨⟨c1, c2, rfl, Sc1, Sc2⟩, hb4⟩
  have D4 : Away (Below w3.heap.size w3 w4) := ⟨hb4⟩
  have T4 : Away (w4.heap[w1.heap.size]? = some (.cells T 34 (0, 0))) := ⟨(hb4.block _ (lt_of_row T3.out)).trans T3.out⟩
  have L4 : Away (w4.heap[w.heap.size]? = some (.cells L 41 (0, 0))) := ⟨(hb4.block _ (lt_of_row L3.out)).trans L3.out⟩
  have B4 : Away (Below w.heap.size w w4) := ⟨B3.out.trans (hb4.mono B3.out.size)⟩
  obtain ⟨a1, k1, rfl⟩ := sl_slice Sc1
  obtain ⟨a2, k2, rfl⟩ := sl_slice Sc2
  have Sc1 := Away.mk Sc1
  have Sc2 := Away.mk Sc2
  clear hb4
  go_wp2_with (first
    | (refine wpList_load_row rfl 34 _ rfl w1.heap.size rfl 34 T (0, 0) _ T4.out Tryd.underlying34 rfl HTz.out ?_)
    | (refine wpList_load_row rfl 41 _ rfl w.heap.size rfl 41 L (0, 0) _ L4.out Tryd.underlying41 rfl HLz.out ?_))
  refine (RC.out _).mono ?_
  rintro e w5 ⟨⟨c3, c4, rfl, Sc3, Sc4⟩, hb5⟩
  have D5 : Away (Below w3.heap.size w3 w5) := ⟨D4.out.trans (hb5.mono D4.out.size)⟩
  have T5 : Away (w5.heap[w1.heap.size]? = some (.cells T 34 (0, 0))) := ⟨(hb5.block _ (lt_of_row T4.out)).trans T4.out⟩
  have L5 : Away (w5.heap[w.heap.size]? = some (.cells L 41 (0, 0))) := ⟨(hb5.block _ (lt_of_row L4.out)).trans L4.out⟩
  have B5 : Away (Below w.heap.size w w5) := ⟨B4.out.trans (hb5.mono B4.out.size)⟩
  obtain ⟨a3, k3, rfl⟩ := sl_slice Sc3
  obtain ⟨a4, k4, rfl⟩ := sl_slice Sc4
  have S1 := Away.mk (Sc1.out.later hb5)
  have S2 := Away.mk (Sc2.out.later hb5)
  have S3 := Away.mk Sc3
  have S4 := Away.mk Sc4
  have KTt : Away (∀ w' : World, Below w5.heap.size w5 w' → w'.heap[w1.heap.size]? = some (.cells T 34 (0, 0))) := ⟨fun w' hb => (hb.block _ (lt_of_row T5.out)).trans T5.out⟩
  have KLt : Away (∀ w' : World, Below w5.heap.size w5 w' → w'.heap[w.heap.size]? = some (.cells L 41 (0, 0))) := ⟨fun w' hb => (hb.block _ (lt_of_row L5.out)).trans L5.out⟩
  have fkk : ((kn : Int) != (kn : Int)) = false := by simp
  clear hb5 Sc1 Sc2 Sc3 Sc4
  go_wp2_with fail
  refine hk_begin w5.heap.size 31 [0, 1, 2, 3, 4, 5, 6, 7, 8, 9, 10, 11, 12, 13, 14, 15, 16, 17, 18, 19, 20, 21, 23, 24, 25, 26, 22, 27, 28, 29, 30] (by kernel_rfl) rfl rfl (by decide) (fun ht ops HO => ?_)
  simp only [List.filterMap_cons, List.filterMap_nil, List.getElem?_cons_succ, List.getElem?_cons_zero]
  (focus (refine hk_take (v := ?_) (by rw [← HO.out]; kernel_rfl) (by rw [← HO.out]; kernel_rfl) (by rw [← HO.out]; kernel_rfl) (by rw [← HO.out]; kernel_rfl) (fun _ _ _ h => h) ?_ ht ?_; rotate_left; focus (intro w9 h9; go_simp; first | done | with_reducible rfl); all_goals skip))
  simp only [Act.put, List.setIfInBounds_toArray, List.set_cons_zero, List.set_cons_succ]
  (focus (refine hk_take (v := ?_) (by rw [← HO.out]; kernel_rfl) (by rw [← HO.out]; kernel_rfl) (by rw [← HO.out]; kernel_rfl) (by rw [← HO.out]; kernel_rfl) (fun _ _ _ h => h) ?_ ht ?_; rotate_left; focus (intro w9 h9; go_simp; first | done | with_reducible rfl); all_goals skip))
  simp only [Act.put, List.setIfInBounds_toArray, List.set_cons_zero, List.set_cons_succ]
  (focus (refine hk_take (v := ?_) (by rw [← HO.out]; kernel_rfl) (by rw [← HO.out]; kernel_rfl) (by rw [← HO.out]; kernel_rfl) (by rw [← HO.out]; kernel_rfl) (fun _ _ _ h => h) ?_ ht ?_; rotate_left; focus (intro w9 h9; go_simp; first | done | with_reducible rfl); all_goals skip))
  simp only [Act.put, List.setIfInBounds_toArray, List.set_cons_zero, List.set_cons_succ]
  (focus (refine hk_take (v := ?_) (by rw [← HO.out]; kernel_rfl) (by rw [← HO.out]; kernel_rfl) (by rw [← HO.out]; kernel_rfl) (by rw [← HO.out]; kernel_rfl) (fun _ _ _ h => h) ?_ ht ?_; rotate_left; focus (intro w9 h9; go_simp; first | done | with_reducible rfl); all_goals skip))
  simp only [Act.put, List.setIfInBounds_toArray, List.set_cons_zero, List.set_cons_succ]
  (focus (refine hk_take (v := ?_) (by rw [← HO.out]; kernel_rfl) (by rw [← HO.out]; kernel_rfl) (by rw [← HO.out]; kernel_rfl) (by rw [← HO.out]; kernel_rfl) (fun _ _ _ h => h) ?_ ht ?_; rotate_left; focus (intro w9 h9; go_simp; first | done | with_reducible rfl); all_goals skip))
  simp only [Act.put, List.setIfInBounds_toArray, List.set_cons_zero, List.set_cons_succ]
  (focus (refine hk_take (v := ?_) (by rw [← HO.out]; kernel_rfl) (by rw [← HO.out]; kernel_rfl) (by rw [← HO.out]; kernel_rfl) (by rw [← HO.out]; kernel_rfl) (fun _ _ _ h => h) ?_ ht ?_; rotate_left; focus (intro w9 h9; go_simp; first | done | with_reducible rfl); all_goals skip))
  simp only [Act.put, List.setIfInBounds_toArray, List.set_cons_zero, List.set_cons_succ]
  (focus (refine hk_take (v := ?_) (by rw [← HO.out]; kernel_rfl) (by rw [← HO.out]; kernel_rfl) (by rw [← HO.out]; kernel_rfl) (by rw [← HO.out]; kernel_rfl) (fun _ _ _ h => h) ?_ ht ?_; rotate_left; focus (intro w9 h9; go_simp; first | done | with_reducible rfl); all_goals skip))
  simp only [Act.put, List.setIfInBounds_toArray, List.set_cons_zero, List.set_cons_succ]
  (focus (refine hk_take (v := ?_) (by rw [← HO.out]; kernel_rfl) (by rw [← HO.out]; kernel_rfl) (by rw [← HO.out]; kernel_rfl) (by rw [← HO.out]; kernel_rfl) (fun _ _ _ h => h) ?_ ht ?_; rotate_left; focus (intro w9 h9; go_simp; first | done | with_reducible rfl); all_goals skip))
  simp only [Act.put, List.setIfInBounds_toArray, List.set_cons_zero, List.set_cons_succ]
  refine hk_step (by rw [← HO.out]; kernel_rfl) (by rw [← HO.out]; kernel_rfl) (fun K hK => ?_)
  go_simp
  refine (polys_sl (S1.out.later ht) (S3.out.later ht)).mono ?_
  rintro e w6 ⟨rfl, hb6⟩
  have h6 : Below w5.heap.size w5 w6 := ht.trans (hb6.mono ht.size)
  refine hK _ _ h6 ?_
  clear hK K
  (focus (refine hk_take (v := ?_) (by rw [← HO.out]; kernel_rfl) (by rw [← HO.out]; kernel_rfl) (by rw [← HO.out]; kernel_rfl) (by rw [← HO.out]; kernel_rfl) (fun _ _ _ h => h) ?_ h6 ?_; rotate_left; focus (intro w9 h9; go_simp; first | done | with_reducible rfl); all_goals skip))
  simp only [Act.put, List.setIfInBounds_toArray, List.set_cons_zero, List.set_cons_succ]
  (focus (refine hk_take (v := ?_) (by rw [← HO.out]; kernel_rfl) (by rw [← HO.out]; kernel_rfl) (by rw [← HO.out]; kernel_rfl) (by rw [← HO.out]; kernel_rfl) (fun _ _ _ h => h) ?_ h6 ?_; rotate_left; focus (intro w9 h9; go_simp; first | done | with_reducible rfl); all_goals skip))
  simp only [Act.put, List.setIfInBounds_toArray, List.set_cons_zero, List.set_cons_succ]
  (focus (refine hk_take (v := ?_) (by rw [← HO.out]; kernel_rfl) (by rw [← HO.out]; kernel_rfl) (by rw [← HO.out]; kernel_rfl) (by rw [← HO.out]; kernel_rfl) (fun _ _ _ h => h) ?_ h6 ?_; rotate_left; focus (intro w9 h9; go_simp; first | done | with_reducible rfl); all_goals skip))
  simp only [Act.put, List.setIfInBounds_toArray, List.set_cons_zero, List.set_cons_succ]
  (focus (refine hk_take (v := ?_) (by rw [← HO.out]; kernel_rfl) (by rw [← HO.out]; kernel_rfl) (by rw [← HO.out]; kernel_rfl) (by rw [← HO.out]; kernel_rfl) (fun _ _ _ h => h) ?_ h6 ?_; rotate_left; focus (intro w9 h9; go_simp; first | done | with_reducible rfl); all_goals skip))
  simp only [Act.put, List.setIfInBounds_toArray, List.set_cons_zero, List.set_cons_succ]
  (focus (refine hk_take (v := ?_) (by rw [← HO.out]; kernel_rfl) (by rw [← HO.out]; kernel_rfl) (by rw [← HO.out]; kernel_rfl) (by rw [← HO.out]; kernel_rfl) (fun _ _ _ h => h) ?_ h6 ?_; rotate_left; focus (intro w9 h9; go_simp; first | done | with_reducible rfl); all_goals skip))
  simp only [Act.put, List.setIfInBounds_toArray, List.set_cons_zero, List.set_cons_succ]
  refine hk_step (by rw [← HO.out]; kernel_rfl) (by rw [← HO.out]; kernel_rfl) (fun K hK => ?_)
  go_simp
  refine (polys_sl (S2.out.later h6) (S4.out.later h6)).mono ?_
  rintro e w7 ⟨rfl, hb7⟩
  have h7 : Below w5.heap.size w5 w7 := h6.trans (hb7.mono h6.size)
  refine hK _ _ h7 ?_
  clear hK K
  (focus (refine hk_take (v := ?_) (by rw [← HO.out]; kernel_rfl) (by rw [← HO.out]; kernel_rfl) (by rw [← HO.out]; kernel_rfl) (by rw [← HO.out]; kernel_rfl) (fun _ _ _ h => h) ?_ h7 ?_; rotate_left; focus (intro w9 h9; go_simp; first | done | with_reducible rfl); all_goals skip))
  simp only [Act.put, List.setIfInBounds_toArray, List.set_cons_zero, List.set_cons_succ]
  (focus (refine hk_take (v := ?_) (by rw [← HO.out]; kernel_rfl) (by rw [← HO.out]; kernel_rfl) (by rw [← HO.out]; kernel_rfl) (by rw [← HO.out]; kernel_rfl) (fun _ _ _ h => h) ?_ h7 ?_; rotate_left; focus (intro w9 h9; go_simp; first | done | with_reducible rfl); all_goals skip))
  simp only [Act.put, List.setIfInBounds_toArray, List.set_cons_zero, List.set_cons_succ]
  (focus (refine hk_take (v := ?_) (by rw [← HO.out]; kernel_rfl) (by rw [← HO.out]; kernel_rfl) (by rw [← HO.out]; kernel_rfl) (by rw [← HO.out]; kernel_rfl) (fun _ _ _ h => h) ?_ h7 ?_; rotate_left; focus (intro w9 h9; go_simp; first | done | with_reducible rfl); all_goals skip))
  simp only [Act.put, List.setIfInBounds_toArray, List.set_cons_zero, List.set_cons_succ]
  refine hk_load (by rw [← HO.out]; kernel_rfl) (by rw [← HO.out]; kernel_rfl) (by rw [← HO.out]; kernel_rfl) (by rw [← HO.out]; kernel_rfl) (fun _ _ _ _ h => h) 34 _ rfl w1.heap.size rfl 34 T _ KTt.out Tryd.underlying34 rfl HTz.out h7 ?_
  simp only [Act.put, List.setIfInBounds_toArray, List.set_cons_zero, List.set_cons_succ]
  refine hk_load (by rw [← HO.out]; kernel_rfl) (by rw [← HO.out]; kernel_rfl) (by rw [← HO.out]; kernel_rfl) (by rw [← HO.out]; kernel_rfl) (fun _ _ _ _ h => h) 41 _ rfl w.heap.size rfl 41 L _ KLt.out Tryd.underlying41 rfl HLz.out h7 ?_
  simp only [Act.put, List.setIfInBounds_toArray, List.set_cons_zero, List.set_cons_succ]
  (focus (refine hk_take (v := ?_) (by rw [← HO.out]; kernel_rfl) (by rw [← HO.out]; kernel_rfl) (by rw [← HO.out]; kernel_rfl) (by rw [← HO.out]; kernel_rfl) (fun _ _ _ h => h) ?_ h7 ?_; rotate_left; focus (intro w9 h9; go_simp; first | done | with_reducible rfl); all_goals skip))
  simp only [Act.put, List.setIfInBounds_toArray, List.set_cons_zero, List.set_cons_succ]
  (focus (refine hk_take (v := ?_) (by rw [← HO.out]; kernel_rfl) (by rw [← HO.out]; kernel_rfl) (by rw [← HO.out]; kernel_rfl) (by rw [← HO.out]; kernel_rfl) (fun _ _ _ h => h) ?_ h7 ?_; rotate_left; focus (intro w9 h9; go_simp; first | done | with_reducible rfl); all_goals skip))
  simp only [Act.put, List.setIfInBounds_toArray, List.set_cons_zero, List.set_cons_succ]
  refine hk_load (by rw [← HO.out]; kernel_rfl) (by rw [← HO.out]; kernel_rfl) (by rw [← HO.out]; kernel_rfl) (by rw [← HO.out]; kernel_rfl) (fun _ _ _ _ h => h) 34 _ rfl w1.heap.size rfl 34 T _ KTt.out Tryd.underlying34 rfl HTz.out h7 ?_
  simp only [Act.put, List.setIfInBounds_toArray, List.set_cons_zero, List.set_cons_succ]
  refine hk_load (by rw [← HO.out]; kernel_rfl) (by rw [← HO.out]; kernel_rfl) (by rw [← HO.out]; kernel_rfl) (by rw [← HO.out]; kernel_rfl) (fun _ _ _ _ h => h) 41 _ rfl w.heap.size rfl 41 L _ KLt.out Tryd.underlying41 rfl HLz.out h7 ?_
  simp only [Act.put, List.setIfInBounds_toArray, List.set_cons_zero, List.set_cons_succ]
  (focus (refine hk_take (v := ?_) (by rw [← HO.out]; kernel_rfl) (by rw [← HO.out]; kernel_rfl) (by rw [← HO.out]; kernel_rfl) (by rw [← HO.out]; kernel_rfl) (fun _ _ _ h => h) ?_ h7 ?_; rotate_left; focus (intro w9 h9; go_simp; first | done | with_reducible rfl); all_goals skip))
  simp only [Act.put, List.setIfInBounds_toArray, List.set_cons_zero, List.set_cons_succ]
  (focus (refine hk_take (v := ?_) (by rw [← HO.out]; kernel_rfl) (by rw [← HO.out]; kernel_rfl) (by rw [← HO.out]; kernel_rfl) (by rw [← HO.out]; kernel_rfl) (fun _ _ _ h => h) ?_ h7 ?_; rotate_left; focus (intro w9 h9; go_simp; first | done | with_reducible rfl); all_goals skip))
  simp only [Act.put, List.setIfInBounds_toArray, List.set_cons_zero, List.set_cons_succ]
  refine hk_step (by rw [← HO.out]; kernel_rfl) (by rw [← HO.out]; kernel_rfl) (fun K hK => ?_)
  go_simp
  refine (HK.out _ (HP.out.later (B5.out.trans (h7.mono B5.out.size)))).mono ?_
  rintro e w8 ⟨⟨d1, rfl, Sd1⟩, hb8⟩
  have h8 : Below w5.heap.size w5 w8 := h7.trans (hb8.mono h7.size)
  refine hK _ _ h8 ?_
  clear hK K
  refine hk_step (by rw [← HO.out]; kernel_rfl) (by rw [← HO.out]; kernel_rfl) (fun K hK => ?_)
  go_simp
  refine (RK.out _).mono ?_
  rintro e w9 ⟨⟨d2, rfl, Sd2⟩, hb9⟩
  have h9 : Below w5.heap.size w5 w9 := h8.trans (hb9.mono h8.size)
  have Sd1' := Sd1.later hb9
  refine hK _ _ h9 ?_
  clear hK K
  refine hk_step (by rw [← HO.out]; kernel_rfl) (by rw [← HO.out]; kernel_rfl) (fun K hK => ?_)
  go_simp
  refine (polys_sl Sd1' Sd2).mono ?_
  rintro e w10 ⟨rfl, hb10⟩
  have h10 : Below w5.heap.size w5 w10 := h9.trans (hb10.mono h9.size)
  refine hK _ _ h10 ?_
  clear hK K
  (focus (refine hk_take (v := ?_) (by rw [← HO.out]; kernel_rfl) (by rw [← HO.out]; kernel_rfl) (by rw [← HO.out]; kernel_rfl) (by rw [← HO.out]; kernel_rfl) (fun _ _ _ h => h) ?_ h10 ?_; rotate_left; focus (intro w9 h9; go_simp; first | done | with_reducible rfl); all_goals skip))
  simp only [Act.put, List.setIfInBounds_toArray, List.set_cons_zero, List.set_cons_succ]
  (focus (refine hk_take (v := ?_) (by rw [← HO.out]; kernel_rfl) (by rw [← HO.out]; kernel_rfl) (by rw [← HO.out]; kernel_rfl) (by rw [← HO.out]; kernel_rfl) (fun _ _ _ h => h) ?_ h10 ?_; rotate_left; focus (intro w9 h9; go_simp; first | done | with_reducible rfl); all_goals skip))
  simp only [Act.put, List.setIfInBounds_toArray, List.set_cons_zero, List.set_cons_succ]
  refine hk_nil (by rw [← HO.out]; kernel_rfl) ?_
  have BA : Away (Below w.heap.size w w10) := ⟨B5.out.trans (h10.mono B5.out.size)⟩
  have DA : Away (Below w3.heap.size w3 w10) := ⟨D5.out.trans (h10.mono D5.out.size)⟩
  clear ht h6 h7 h8 h9 h10 hb6 hb7 hb8 hb9 hb10 Sd1 Sd1' Sd2 HO fkk
  go_wp2_with fail
  go_loopw [75] (fun v wr => ∃ i : Nat, i ≤ kn ∧ v = .int .i64 (i : Int) ∧ Away (Below w10.heap.size w10 wr)) (fun v _ => kn - (intOf v).toNat)
  case atStart => exact ⟨0, Nat.zero_le _, rfl, ⟨Below.refl _ _⟩⟩
  case round =>
    obtain ⟨i, hi, rfl, Hb⟩ := hrel
    have DR : Away (Below w3.heap.size w3 wr) := ⟨DA.out.trans (Hb.out.mono DA.out.size)⟩
    have BR : Away (Below w.heap.size w wr) := ⟨BA.out.trans (Hb.out.mono BA.out.size)⟩
    by_cases hlt : i < kn
    · have hltz : (i : Int) < (kn : Int) := by omega
      have hi0 : (0 : Int) ≤ (i : Int) := by omega
      have hi8 : i < 8 := by have := Hkn.out; omega
      obtain ⟨ga, pa, hea⟩ := rbitd.owns_some (by omega) Oa3.out
      obtain ⟨rfl, -, rfl⟩ : aa = some ⟨ga, 0, none⟩ ∧ True ∧ ca = pa := by injection hea with x1 x2 x3; exact ⟨x1, trivial, x3⟩
      have hla : vs.length = kn := by have := Oa3.out.1; omega
      obtain ⟨ya, hya⟩ : ∃ y, vs[i]? = some y := ⟨_, List.getElem?_eq_getElem (by omega)⟩
      have hca := Oa3.out.cellAt i (by omega)
      rw [hya] at hca
      have hga := (Oa3.out.lt ga rfl).2
      obtain ⟨za, sa, rfl, -, hza, -, hqa⟩ := Ra3.out i ya hya
      have Ya : Away (∀ w' : World, Below wr.heap.size wr w' → w'.cell? ⟨ga, i, none⟩ = some (.slice (some ⟨za, 0, none⟩) ln sa)) := ⟨fun w' hb => (hb.cell (p := ⟨ga, i, none⟩) (by have := DR.out.size; show ga < _; omega)).trans ((DR.out.cell (p := ⟨ga, i, none⟩) hga).trans hca)⟩
      have Za : Away (SL wr (.slice (some ⟨za, 0, none⟩) ln sa) ln (qx i)) := ⟨Or.inr ⟨(Hln.out (by omega)).1, (Hln.out (by omega)).2, 0, za, sa, rfl, Nat.zero_le _, by have := DR.out.size; omega, fun j hj k hk => (DR.out.cell (p := ⟨za, 256 * j + k, none⟩) hza).trans (hqa j hj k hk)⟩⟩
      clear hea hya hca hqa hla
      obtain ⟨gb, pb, heb⟩ := rbitd.owns_some (by omega) Ob3.out
      obtain ⟨rfl, -, rfl⟩ : ab = some ⟨gb, 0, none⟩ ∧ True ∧ cb = pb := by injection heb with x1 x2 x3; exact ⟨x1, trivial, x3⟩
      have hlb : us.length = kn := by have := Ob3.out.1; omega
      obtain ⟨yb, hyb⟩ : ∃ y, us[i]? = some y := ⟨_, List.getElem?_eq_getElem (by omega)⟩
      have hcb := Ob3.out.cellAt i (by omega)
      rw [hyb] at hcb
      have hgb := (Ob3.out.lt gb rfl).2
      obtain ⟨zb, sb, rfl, -, hzb, -, hqb⟩ := Rb3.out i yb hyb
      have Yb : Away (∀ w' : World, Below wr.heap.size wr w' → w'.cell? ⟨gb, i, none⟩ = some (.slice (some ⟨zb, 0, none⟩) ln sb)) := ⟨fun w' hb => (hb.cell (p := ⟨gb, i, none⟩) (by have := DR.out.size; show gb < _; omega)).trans ((DR.out.cell (p := ⟨gb, i, none⟩) hgb).trans hcb)⟩
      have Zb : Away (SL wr (.slice (some ⟨zb, 0, none⟩) ln sb) ln (qx i)) := ⟨Or.inr ⟨(Hln.out (by omega)).1, (Hln.out (by omega)).2, 0, zb, sb, rfl, Nat.zero_le _, by have := DR.out.size; omega, fun j hj k hk => (DR.out.cell (p := ⟨zb, 256 * j + k, none⟩) hzb).trans (hqb j hj k hk)⟩⟩
      clear heb hyb hcb hqb hlb
      go_wp2_with fail
      refine hk_begin wr.heap.size 10 [0, 1, 2, 3, 4, 5, 6, 7, 8, 9] (by kernel_rfl) rfl rfl (by decide) (fun hr ops HO => ?_)
      simp only [List.filterMap_cons, List.filterMap_nil, List.getElem?_cons_succ, List.getElem?_cons_zero]
      (focus (refine hk_take (v := ?_) (by rw [← HO.out]; kernel_rfl) (by rw [← HO.out]; kernel_rfl) (by rw [← HO.out]; kernel_rfl) (by rw [← HO.out]; kernel_rfl) (fun _ _ _ h => h) ?_ hr ?_; rotate_left; focus (intro w9 h9; go_simp; first | done | with_reducible rfl); all_goals skip))
      simp only [Act.put, List.setIfInBounds_toArray, List.set_cons_zero, List.set_cons_succ]
      (focus (refine hk_take (v := ?_) (by rw [← HO.out]; kernel_rfl) (by rw [← HO.out]; kernel_rfl) (by rw [← HO.out]; kernel_rfl) (by rw [← HO.out]; kernel_rfl) (fun _ _ _ h => h) ?_ hr ?_; rotate_left; focus (intro w9 h9; go_simp; first | done | with_reducible rfl); all_goals skip))
      simp only [Act.put, List.setIfInBounds_toArray, List.set_cons_zero, List.set_cons_succ]
      (focus (refine hk_take (v := ?_) (by rw [← HO.out]; kernel_rfl) (by rw [← HO.out]; kernel_rfl) (by rw [← HO.out]; kernel_rfl) (by rw [← HO.out]; kernel_rfl) (fun _ _ _ h => h) ?_ hr ?_; rotate_left; focus (intro w9 h9; go_simp; first | done | with_reducible rfl); all_goals skip))
      simp only [Act.put, List.setIfInBounds_toArray, List.set_cons_zero, List.set_cons_succ]
      (focus (refine hk_take (v := ?_) (by rw [← HO.out]; kernel_rfl) (by rw [← HO.out]; kernel_rfl) (by rw [← HO.out]; kernel_rfl) (by rw [← HO.out]; kernel_rfl) (fun _ _ _ h => h) ?_ hr ?_; rotate_left; focus (intro w9 h9; have hc := Ya.out w9 h9; go_simp; first | done | with_reducible rfl); all_goals skip))
      simp only [Act.put, List.setIfInBounds_toArray, List.set_cons_zero, List.set_cons_succ]
      (focus (refine hk_take (v := ?_) (by rw [← HO.out]; kernel_rfl) (by rw [← HO.out]; kernel_rfl) (by rw [← HO.out]; kernel_rfl) (by rw [← HO.out]; kernel_rfl) (fun _ _ _ h => h) ?_ hr ?_; rotate_left; focus (intro w9 h9; go_simp; first | done | with_reducible rfl); all_goals skip))
      simp only [Act.put, List.setIfInBounds_toArray, List.set_cons_zero, List.set_cons_succ]
      (focus (refine hk_take (v := ?_) (by rw [← HO.out]; kernel_rfl) (by rw [← HO.out]; kernel_rfl) (by rw [← HO.out]; kernel_rfl) (by rw [← HO.out]; kernel_rfl) (fun _ _ _ h => h) ?_ hr ?_; rotate_left; focus (intro w9 h9; go_simp; first | done | with_reducible rfl); all_goals skip))
      simp only [Act.put, List.setIfInBounds_toArray, List.set_cons_zero, List.set_cons_succ]
      (focus (refine hk_take (v := ?_) (by rw [← HO.out]; kernel_rfl) (by rw [← HO.out]; kernel_rfl) (by rw [← HO.out]; kernel_rfl) (by rw [← HO.out]; kernel_rfl) (fun _ _ _ h => h) ?_ hr ?_; rotate_left; focus (intro w9 h9; go_simp; first | done | with_reducible rfl); all_goals skip))
      simp only [Act.put, List.setIfInBounds_toArray, List.set_cons_zero, List.set_cons_succ]
      (focus (refine hk_take (v := ?_) (by rw [← HO.out]; kernel_rfl) (by rw [← HO.out]; kernel_rfl) (by rw [← HO.out]; kernel_rfl) (by rw [← HO.out]; kernel_rfl) (fun _ _ _ h => h) ?_ hr ?_; rotate_left; focus (intro w9 h9; have hc := Yb.out w9 h9; go_simp; first | done | with_reducible rfl); all_goals skip))
      simp only [Act.put, List.setIfInBounds_toArray, List.set_cons_zero, List.set_cons_succ]
      refine hk_step (by rw [← HO.out]; kernel_rfl) (by rw [← HO.out]; kernel_rfl) (fun K hK => ?_)
      go_simp
      refine (polys_sl (Za.out.later hr) (Zb.out.later hr)).mono ?_
      rintro e w11 ⟨rfl, hb11⟩
      have h11 : Below wr.heap.size wr w11 := hr.trans (hb11.mono hr.size)
      refine hK _ _ h11 ?_
      clear hK K
      (focus (refine hk_take (v := ?_) (by rw [← HO.out]; kernel_rfl) (by rw [← HO.out]; kernel_rfl) (by rw [← HO.out]; kernel_rfl) (by rw [← HO.out]; kernel_rfl) (fun _ _ _ h => h) ?_ h11 ?_; rotate_left; focus (intro w9 h9; go_simp; first | done | with_reducible rfl); all_goals skip))
      simp only [Act.put, List.setIfInBounds_toArray, List.set_cons_zero, List.set_cons_succ]
      refine hk_nil (by rw [← HO.out]; kernel_rfl) ?_
      have Hn : Away (Below w10.heap.size w10 w11) := ⟨Hb.out.trans (h11.mono Hb.out.size)⟩
      clear hr h11 hb11 HO
      go_wp2_with fail
      go_roundw
      case rel => exact ⟨i + 1, by omega, by go_num, Hn⟩
      case measure => simp [intOf]; omega
    · obtain rfl : i = kn := by omega
      go_wp2_with fail
      refine (HA.out _ (HP.out.later BR.out)).mono ?_
      rintro e w12 ⟨rfl, hb12⟩
      go_wp2_with fail
      go_ret
      exact ⟨rfl, BR.out.trans (hb12.mono BR.out.size)⟩
end Go.Proofs.YtjdcmnmnjkkpiaaDoor.lists11
