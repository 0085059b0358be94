/-
  The law package's own look at keys ('awake') returns true. Conditions: keccak's variable 'places' holds what the program's text lays there; what Sizes and Pair return is handed in.
-/
import Derived.Test.YtlcafjdehcddcaaGreatDoorPuA
import Derived.Test.YtlcafjdehcddcaaGreatDoorRSex
import Derived.Test.YtlcafjdehcddcaaGreatDoorTab
import Derived.Test.YtlcafjdehcddcaaGreatDoorKq
namespace Go.Proofs.YtlcafjdehcddcaaGreatDoor
namespace awake12
set_option linter.unusedSimpArgs false
open Go Go.RowKit
open mem arr tabv built kturn polt rndm helda
def d32 : ByteArray := ⟨#[48, 49, 50, 51, 52, 53, 54, 55, 56, 57, 48, 49, 50, 51, 52, 53, 54, 55, 56, 57, 48, 49, 50, 51, 52, 53, 54, 55, 56, 57, 48, 49]⟩
set_option maxRecDepth 100000 in
set_option maxHeartbeats 4000000 in
theorem awake_any (PK SK : ByteArray) (w : World) (hP : Gp w) (h1 : PK.size = 352) (h2 : SK.size = 736)
 (HSz : ∀ w1 : World, Calls Tryz.prog 7 #[.agg set1] w1 fun e w' => e = .returned (.tuple #[.int .i64 1312, .int .i64 2560, .int .i64 2420]) ∧ Below w1.heap.size w1 w')
 (HPr : ∀ w1 : World, Gp w1 → Calls Tryz.prog 9 #[.agg TA, .agg set4, .string d32] w1 fun e w' => e = .returned (.tuple #[.string PK, .string SK, .int .i64 0]) ∧ Below w1.heap.size w1 w') :
 Calls Tryz.prog 5 #[] w fun e w' => e = .returned (.bool true) ∧ Below w.heap.size w w' := by
 have HP := Away.mk hP
 obtain ⟨hz, hsize⟩ := zero_of_info built.infoT
 obtain ⟨hzl, hsizel⟩ := zero_of_info rset.infoL
 obtain ⟨Zl, HZl⟩ := ex_eq set0
 rw [HZl.out] at hzl
 have HZls : Away (Zl.size = 8) := ⟨by rw [← HZl.out]; rfl⟩
 have Hsizel := Away.mk hsizel
 obtain ⟨T, HT⟩ := ex_eq TA
 have Hmk : Away (∀ w1 : World, Calls Tryz.prog 25 #[] w1 fun e w' => e = .returned (.agg T) ∧ Below w1.heap.size w1 w') := ⟨fun w1 => by rw [← HT.out]; exact make.make_any w1⟩
 obtain ⟨C, HC⟩ := ex_eq set4
 have HCs : Away (C.size = 8) := ⟨by rw [← HC.out]; rfl⟩
 have HCo : Away (C.all (·.oneCell') = true) := ⟨by rw [← HC.out]; simp [set4, Value.oneCell']⟩
 have HCz : Away ((Tryz.prog.info? 23).map (·.size) = some C.size) := ⟨by rw [HCs.out]; exact Hsizel.out⟩
 have HSet4 : Away (∀ w1 : World, Calls Tryz.prog 24 #[.int .i64 4] w1 fun e w' => e = .returned (.tuple #[.agg C, .int .i64 0]) ∧ Below w1.heap.size w1 w') := ⟨fun w1 => by rw [← HC.out]; exact rset.set_4 w1⟩
 obtain ⟨D, HD⟩ := ex_eq set1
 have HDs : Away (D.size = 8) := ⟨by rw [← HD.out]; rfl⟩
 have HDo : Away (D.all (·.oneCell') = true) := ⟨by rw [← HD.out]; simp [set1, Value.oneCell']⟩
 have HDz : Away ((Tryz.prog.info? 23).map (·.size) = some D.size) := ⟨by rw [HDs.out]; exact Hsizel.out⟩
 have HSet1 : Away (∀ w1 : World, Calls Tryz.prog 24 #[.int .i64 1] w1 fun e w' => e = .returned (.tuple #[.agg D, .int .i64 0]) ∧ Below w1.heap.size w1 w') := ⟨fun w1 => by rw [← HD.out]; exact rset.set_1 w1⟩
 rw [HD.out] at HSz
 rw [HC.out, HT.out] at HPr
 have HSz := Away.mk HSz
 have HPr := Away.mk HPr
 have h1z : (PK.size : Int) = 352 := by omega
 have h2z : (SK.size : Int) = 736 := by omega
 clear hz hsize hsizel hP HT HZl HC HD
 go_enter Tryz.func5, Tryz.ntmps5
 go_wp2_with fail
 refine (HSet1.out _).mono ?_
 rintro e w1 ⟨rfl, hb1⟩
 obtain ⟨W1, hW1⟩ : ∃ x, w1.alloc (.cells D 23) = x := ⟨_, rfl⟩
 obtain ⟨r1, hs1, b1⟩ := one hW1
 have HW1 := Away.mk hW1
 have D1 : Away (W1.heap[w1.heap.size]? = some (.cells D 23 (0, 0))) := ⟨r1⟩
 have B1 : Away (Below w.heap.size w W1) := ⟨hb1.trans (b1.mono hb1.size)⟩
 clear hb1 hW1 r1 hs1 b1
 go_wp2_with (first
  | (refine wpList_store_new rfl 23 _ _ rfl _ rfl rfl HDz.out (by rw [HDs.out]; exact HZls.out) HDo.out rfl ?_)
  | (rw [HW1.out])
  | (refine wpList_load_row rfl 23 _ rfl w1.heap.size rfl 23 D (0, 0) _ D1.out Tryz.underlying23 rfl HDz.out ?_))
 refine (HSz.out _).mono ?_
 rintro e w2 ⟨rfl, hb2⟩
 have B2 : Away (Below w.heap.size w w2) := ⟨B1.out.trans (hb2.mono B1.out.size)⟩
 clear hb2
 go_wp2_with fail
 refine (HSet4.out _).mono ?_
 rintro e w3 ⟨rfl, hb3⟩
 obtain ⟨W3, hW3⟩ : ∃ x, w3.alloc (.cells C 23) = x := ⟨_, rfl⟩
 obtain ⟨r3, hs3, b3⟩ := one hW3
 have HW3 := Away.mk hW3
 have B3 : Away (Below w.heap.size w W3) := ⟨B2.out.trans ((hb3.trans (b3.mono hb3.size)).mono B2.out.size)⟩
 have KC : Away (∀ w' : World, Below W3.heap.size W3 w' → w'.heap[w3.heap.size]? = some (.cells C 23 (0, 0))) := ⟨fun w' hb => (hb.block _ (lt_of_row r3)).trans r3⟩
 clear hb3 hW3 r3 hs3 b3
 go_wp2_with (first
  | (refine wpList_store_new rfl 23 _ _ rfl _ rfl rfl HCz.out (by rw [HCs.out]; exact HZls.out) HCo.out rfl ?_)
  | (rw [HW3.out]))
 refine hk_begin W3.heap.size 10 [1, 0, 2, 3, 4, 5, 6, 7, 8, 9] (by kernel_rfl) rfl rfl (by decide) (fun hS ops HO => ?_)
 simp only [List.filterMap_cons, List.filterMap_nil, List.getElem?_cons_succ, List.getElem?_cons_zero]
 refine hk_load (by rw [← HO.out]; kernel_rfl) (by rw [← HO.out]; kernel_rfl) (by rw [← HO.out]; kernel_rfl) (by rw [← HO.out]; kernel_rfl) (fun _ _ _ _ h => h) 23 _ rfl w3.heap.size rfl 23 C _ KC.out Tryz.underlying23 rfl HCz.out hS ?_
 simp only [Act.put, List.setIfInBounds_toArray, List.set_cons_zero, List.set_cons_succ]
 refine hk_step (by rw [← HO.out]; kernel_rfl) (by rw [← HO.out]; kernel_rfl) (fun K hK => ?_)
 go_simp
 refine (Hmk.out _).mono ?_
 rintro e w4 ⟨rfl, hb4⟩
 have h4 : Below W3.heap.size W3 w4 := hS.trans (hb4.mono hS.size)
 refine hK _ _ h4 ?_
 clear hK K
 try simp only [Act.put, List.setIfInBounds_toArray, List.set_cons_zero, List.set_cons_succ]
 refine hk_step (by rw [← HO.out]; kernel_rfl) (by rw [← HO.out]; kernel_rfl) (fun K hK => ?_)
 go_simp
 refine (HPr.out _ (HP.out.later (B3.out.trans (h4.mono B3.out.size)))).mono ?_
 rintro e w5 ⟨rfl, hb5⟩
 have h5 : Below W3.heap.size W3 w5 := h4.trans (hb5.mono h4.size)
 refine hK _ _ h5 ?_
 clear hK K
 try simp only [Act.put, List.setIfInBounds_toArray, List.set_cons_zero, List.set_cons_succ]
 (focus (refine hk_take (v := ?_) (by rw [← HO.out]; kernel_rfl) (by rw [← HO.out]; kernel_rfl) (by rw [← HO.out]; kernel_rfl) (by rw [← HO.out]; kernel_rfl) (fun _ _ _ h => h) ?_ h5 ?_; rotate_left; focus (intro w9 h9; go_simp; first | done | with_reducible rfl); all_goals skip))
 simp only [Act.put, List.setIfInBounds_toArray, List.set_cons_zero, List.set_cons_succ]
 (focus (refine hk_take (v := ?_) (by rw [← HO.out]; kernel_rfl) (by rw [← HO.out]; kernel_rfl) (by rw [← HO.out]; kernel_rfl) (by rw [← HO.out]; kernel_rfl) (fun _ _ _ h => h) ?_ h5 ?_; rotate_left; focus (intro w9 h9; go_simp; first | done | with_reducible rfl); all_goals skip))
 simp only [Act.put, List.setIfInBounds_toArray, List.set_cons_zero, List.set_cons_succ]
 (focus (refine hk_take (v := ?_) (by rw [← HO.out]; kernel_rfl) (by rw [← HO.out]; kernel_rfl) (by rw [← HO.out]; kernel_rfl) (by rw [← HO.out]; kernel_rfl) (fun _ _ _ h => h) ?_ h5 ?_; rotate_left; focus (intro w9 h9; go_simp; first | done | with_reducible rfl); all_goals skip))
 simp only [Act.put, List.setIfInBounds_toArray, List.set_cons_zero, List.set_cons_succ]
 (focus (refine hk_take (v := ?_) (by rw [← HO.out]; kernel_rfl) (by rw [← HO.out]; kernel_rfl) (by rw [← HO.out]; kernel_rfl) (by rw [← HO.out]; kernel_rfl) (fun _ _ _ h => h) ?_ h5 ?_; rotate_left; focus (intro w9 h9; go_simp; first | done | with_reducible rfl); all_goals skip))
 simp only [Act.put, List.setIfInBounds_toArray, List.set_cons_zero, List.set_cons_succ]
 (focus (refine hk_take (v := ?_) (by rw [← HO.out]; kernel_rfl) (by rw [← HO.out]; kernel_rfl) (by rw [← HO.out]; kernel_rfl) (by rw [← HO.out]; kernel_rfl) (fun _ _ _ h => h) ?_ h5 ?_; rotate_left; focus (intro w9 h9; go_simp; first | done | with_reducible rfl); all_goals skip))
 simp only [Act.put, List.setIfInBounds_toArray, List.set_cons_zero, List.set_cons_succ]
 (focus (refine hk_take (v := ?_) (by rw [← HO.out]; kernel_rfl) (by rw [← HO.out]; kernel_rfl) (by rw [← HO.out]; kernel_rfl) (by rw [← HO.out]; kernel_rfl) (fun _ _ _ h => h) ?_ h5 ?_; rotate_left; focus (intro w9 h9; go_simp; first | done | with_reducible rfl); all_goals skip))
 simp only [Act.put, List.setIfInBounds_toArray, List.set_cons_zero, List.set_cons_succ]
 (focus (refine hk_take (v := ?_) (by rw [← HO.out]; kernel_rfl) (by rw [← HO.out]; kernel_rfl) (by rw [← HO.out]; kernel_rfl) (by rw [← HO.out]; kernel_rfl) (fun _ _ _ h => h) ?_ h5 ?_; rotate_left; focus (intro w9 h9; go_simp; first | done | with_reducible rfl); all_goals skip))
 simp only [Act.put, List.setIfInBounds_toArray, List.set_cons_zero, List.set_cons_succ]
 refine hk_nil (by rw [← HO.out]; kernel_rfl) ?_
 have BF : Away (Below w.heap.size w w5) := ⟨B3.out.trans (h5.mono B3.out.size)⟩
 clear hS HO hb4 hb5 h4 h5
 go_wp2_with fail
 go_ret
 exact ⟨rfl, BF.out⟩
end awake12
end Go.Proofs.YtlcafjdehcddcaaGreatDoor
