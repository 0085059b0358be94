/-
  What the reference's Bytes and Short return, for any address. Conditions: the numbers are of their types.
-/
import Derived.Test.YthggakbomlgkhaaAdT
import Derived.Test.YthggakbomlgkhaaR01F
import Derived.Test.YthggakbomlgkhaaHeldB
namespace Go.Proofs.Ythggakbomlgkhaa.rat
open Go Go.RowKit
open Go.Proofs.Ythggakbomlgkhaa.arr Go.Proofs.Ythggakbomlgkhaa.mem Go.Proofs.Ythggakbomlgkhaa.stil Go.Proofs.Ythggakbomlgkhaa.boxt Go.Proofs.Ythggakbomlgkhaa.polys Go.Proofs.Ythggakbomlgkhaa.adm Go.Proofs.Ythggakbomlgkhaa.adp Go.Proofs.Ythggakbomlgkhaa.ade Go.Proofs.Ythggakbomlgkhaa.adt Go.Proofs.Ythggakbomlgkhaa.oct Go.Proofs.Ythggakbomlgkhaa.helda Go.Proofs.Ythggakbomlgkhaa.heldb

theorem fixed (n m : Nat) (w : World) (h1 : 1 ≤ m) (h2 : m ≤ 50000) (hn : n < 18446744073709551616) (s : ByteArray) (hs : (⟨(fixL n m).toArray⟩ : ByteArray) = s) :
    Calls Try.prog 28 #[.int .u64 n, .int .i64 m] w fun e w' => e = .returned (.string s) ∧ Below w.heap.size w w' := by
  subst hs
  exact r01f.fixed_in n m w h1 h2 hn
theorem cat_six (X W : Nat → Nat) (s : Nat → ByteArray) (h : ∀ j, j < 6 → (⟨(fixL (X j) (W j)).toArray⟩ : ByteArray) = s j) : (⟨(cat X W 6).toArray⟩ : ByteArray) = s 0 ++ s 1 ++ s 2 ++ s 3 ++ s 4 ++ s 5 := by
  rw [← h 0 (by decide), ← h 1 (by decide), ← h 2 (by decide), ← h 3 (by decide), ← h 4 (by decide), ← h 5 (by decide)]
  simp only [bits8.str_app, cat, List.nil_append]
set_option maxRecDepth 100000 in
set_option maxHeartbeats 2000000 in
theorem bytes_any (l t u p h o : Nat) (k : Int) (w : World) (hk : k = IntKind.i64.wrap (u : Int)) (hl : l < 18446744073709551616) (ht : t < 18446744073709551616) (hu : u < 18446744073709551616) (hp : p < 18446744073709551616) (hh : h < 18446744073709551616) (ho : o < 18446744073709551616) :
    Calls Try.prog 15 #[.agg (ad l t k p h o)] w fun e w' => e = .returned (.string ⟨(cat (nums l t u p h o) wL 6).toArray⟩) ∧ Below w.heap.size w w' := by
  obtain ⟨s, hs⟩ : ∃ s : Nat → ByteArray, ∀ j, j < 6 → (⟨(fixL (nums l t u p h o j) (wL j)).toArray⟩ : ByteArray) = s j := ⟨fun j => ⟨(fixL (nums l t u p h o j) (wL j)).toArray⟩, fun _ _ => rfl⟩
  rw [cat_six _ _ s hs]
  have F0 := Away.mk (fun w1 => fixed l 4 w1 (by decide) (by decide) hl (s 0) (hs 0 (by decide)))
  have z0 : (s 0).size = 4 := by rw [← hs 0 (by decide)]; show (fixL _ _).toArray.size = _; rw [List.size_toArray, fixL_length]; rfl
  have F1 := Away.mk (fun w1 => fixed t 12 w1 (by decide) (by decide) ht (s 1) (hs 1 (by decide)))
  have z1 : (s 1).size = 12 := by rw [← hs 1 (by decide)]; show (fixL _ _).toArray.size = _; rw [List.size_toArray, fixL_length]; rfl
  have F2 := Away.mk (fun w1 => fixed u 4 w1 (by decide) (by decide) hu (s 2) (hs 2 (by decide)))
  have z2 : (s 2).size = 4 := by rw [← hs 2 (by decide)]; show (fixL _ _).toArray.size = _; rw [List.size_toArray, fixL_length]; rfl
  have F3 := Away.mk (fun w1 => fixed p 4 w1 (by decide) (by decide) hp (s 3) (hs 3 (by decide)))
  have z3 : (s 3).size = 4 := by rw [← hs 3 (by decide)]; show (fixL _ _).toArray.size = _; rw [List.size_toArray, fixL_length]; rfl
  have F4 := Away.mk (fun w1 => fixed h 4 w1 (by decide) (by decide) hh (s 4) (hs 4 (by decide)))
  have z4 : (s 4).size = 4 := by rw [← hs 4 (by decide)]; show (fixL _ _).toArray.size = _; rw [List.size_toArray, fixL_length]; rfl
  have F5 := Away.mk (fun w1 => fixed o 4 w1 (by decide) (by decide) ho (s 5) (hs 5 (by decide)))
  have z5 : (s 5).size = 4 := by rw [← hs 5 (by decide)]; show (fixL _ _).toArray.size = _; rw [List.size_toArray, fixL_length]; rfl
  have hku : IntKind.u64.wrap k = (u : Int) := by rw [hk]; exact wrap_two u hu
  clear hs hk
  generalize s 0 = s0 at F0 z0 ⊢
  generalize s 1 = s1 at F1 z1 ⊢
  generalize s 2 = s2 at F2 z2 ⊢
  generalize s 3 = s3 at F3 z3 ⊢
  generalize s 4 = s4 at F4 z4 ⊢
  generalize s 5 = s5 at F5 z5 ⊢
  unfold ad
  obtain ⟨W, hW⟩ : ∃ x, w.alloc (.cells #[.int .u64 (l : Int), .int .u64 (t : Int), .int .i64 k, .int .u64 (p : Int), .int .u64 (h : Int), .int .u64 (o : Int)] 26) = x := ⟨_, rfl⟩
  obtain ⟨r, -, hb⟩ := one hW
  have HW := Away.mk hW
  have HB := Away.mk hb
  have R := Away.mk r
  have K0 : Away (∀ w9 : World, Below W.heap.size W w9 → w9.cell? ⟨w.heap.size, 0, none⟩ = some (.int .u64 (l : Int))) := ⟨fun w9 hb => cell_at ((hb.block _ (lt_of_row R.out)).trans R.out) rfl⟩
  have K1 : Away (∀ w9 : World, Below W.heap.size W w9 → w9.cell? ⟨w.heap.size, 1, none⟩ = some (.int .u64 (t : Int))) := ⟨fun w9 hb => cell_at ((hb.block _ (lt_of_row R.out)).trans R.out) rfl⟩
  have K2 : Away (∀ w9 : World, Below W.heap.size W w9 → w9.cell? ⟨w.heap.size, 2, none⟩ = some (.int .i64 k)) := ⟨fun w9 hb => cell_at ((hb.block _ (lt_of_row R.out)).trans R.out) rfl⟩
  have K3 : Away (∀ w9 : World, Below W.heap.size W w9 → w9.cell? ⟨w.heap.size, 3, none⟩ = some (.int .u64 (p : Int))) := ⟨fun w9 hb => cell_at ((hb.block _ (lt_of_row R.out)).trans R.out) rfl⟩
  have K4 : Away (∀ w9 : World, Below W.heap.size W w9 → w9.cell? ⟨w.heap.size, 4, none⟩ = some (.int .u64 (h : Int))) := ⟨fun w9 hb => cell_at ((hb.block _ (lt_of_row R.out)).trans R.out) rfl⟩
  have K5 : Away (∀ w9 : World, Below W.heap.size W w9 → w9.cell? ⟨w.heap.size, 5, none⟩ = some (.int .u64 (o : Int))) := ⟨fun w9 hb => cell_at ((hb.block _ (lt_of_row R.out)).trans R.out) rfl⟩
  clear hW r hb
  go_enter Try.func15, Try.ntmps15
  go_wp2_with (rw [HW.out])
  refine hk_begin (W.heap.size) 25 [0, 1, 3, 4, 7, 8, 9, 12, 13, 16, 17, 20, 21, 2, 5, 6, 10, 11, 14, 15, 18, 19, 22, 23, 24] (by kernel_rfl) rfl rfl (by decide) (fun hS ops HO => ?_)
  simp only [List.filterMap_cons, fa, List.getElem?_cons_succ, List.getElem?_cons_zero]
  (refine hk_t (v := ?_) (by rw [← HO.out]; kernel_rfl) (fun _ _ _ h => h) ?_ hS ?_; rotate_left; focus (intro w9 h9; go_simp; first | done | with_reducible rfl); all_goals skip)
  simp only [Act.put, pa, pb, pc]
  (refine hk_t (v := ?_) (by rw [← HO.out]; kernel_rfl) (fun _ _ _ h => h) ?_ hS ?_; rotate_left; focus (intro w9 h9; have hc := K0.out w9 h9; go_simp; first | done | with_reducible rfl); all_goals skip)
  simp only [Act.put, pa, pb, pc]
  (refine hk_t (v := ?_) (by rw [← HO.out]; kernel_rfl) (fun _ _ _ h => h) ?_ hS ?_; rotate_left; focus (intro w9 h9; go_simp; first | done | with_reducible rfl); all_goals skip)
  simp only [Act.put, pa, pb, pc]
  (refine hk_t (v := ?_) (by rw [← HO.out]; kernel_rfl) (fun _ _ _ h => h) ?_ hS ?_; rotate_left; focus (intro w9 h9; have hc := K1.out w9 h9; go_simp; first | done | with_reducible rfl); all_goals skip)
  simp only [Act.put, pa, pb, pc]
  (refine hk_t (v := ?_) (by rw [← HO.out]; kernel_rfl) (fun _ _ _ h => h) ?_ hS ?_; rotate_left; focus (intro w9 h9; go_simp; first | done | with_reducible rfl); all_goals skip)
  simp only [Act.put, pa, pb, pc]
  (refine hk_t (v := ?_) (by rw [← HO.out]; kernel_rfl) (fun _ _ _ h => h) ?_ hS ?_; rotate_left; focus (intro w9 h9; have hc := K2.out w9 h9; go_simp; first | done | with_reducible rfl); all_goals skip)
  simp only [Act.put, pa, pb, pc]
  (refine hk_t (v := ?_) (by rw [← HO.out]; kernel_rfl) (fun _ _ _ h => h) ?_ hS ?_; rotate_left; focus (intro w9 h9; go_simp; first | done | with_reducible rfl); all_goals skip)
  simp only [Act.put, pa, pb, pc]
  (refine hk_t (v := ?_) (by rw [← HO.out]; kernel_rfl) (fun _ _ _ h => h) ?_ hS ?_; rotate_left; focus (intro w9 h9; go_simp; first | done | with_reducible rfl); all_goals skip)
  simp only [Act.put, pa, pb, pc]
  (refine hk_t (v := ?_) (by rw [← HO.out]; kernel_rfl) (fun _ _ _ h => h) ?_ hS ?_; rotate_left; focus (intro w9 h9; have hc := K3.out w9 h9; go_simp; first | done | with_reducible rfl); all_goals skip)
  simp only [Act.put, pa, pb, pc]
  (refine hk_t (v := ?_) (by rw [← HO.out]; kernel_rfl) (fun _ _ _ h => h) ?_ hS ?_; rotate_left; focus (intro w9 h9; go_simp; first | done | with_reducible rfl); all_goals skip)
  simp only [Act.put, pa, pb, pc]
  (refine hk_t (v := ?_) (by rw [← HO.out]; kernel_rfl) (fun _ _ _ h => h) ?_ hS ?_; rotate_left; focus (intro w9 h9; have hc := K4.out w9 h9; go_simp; first | done | with_reducible rfl); all_goals skip)
  simp only [Act.put, pa, pb, pc]
  (refine hk_t (v := ?_) (by rw [← HO.out]; kernel_rfl) (fun _ _ _ h => h) ?_ hS ?_; rotate_left; focus (intro w9 h9; go_simp; first | done | with_reducible rfl); all_goals skip)
  simp only [Act.put, pa, pb, pc]
  (refine hk_t (v := ?_) (by rw [← HO.out]; kernel_rfl) (fun _ _ _ h => h) ?_ hS ?_; rotate_left; focus (intro w9 h9; have hc := K5.out w9 h9; go_simp; first | done | with_reducible rfl); all_goals skip)
  simp only [Act.put, pa, pb, pc]
  refine hk_s (by rw [← HO.out]; kernel_rfl) (fun K hK => ?_)
  go_simp
  refine (F0.out _).mono ?_
  rintro x w1 ⟨rfl, hb0⟩
  have h0 := hS.trans (hb0.mono hS.size)
  refine hK _ _ h0 ?_
  clear hK K
  try simp only [Act.put, pa, pb, pc]
  refine hk_s (by rw [← HO.out]; kernel_rfl) (fun K hK => ?_)
  go_simp
  refine (F1.out _).mono ?_
  rintro x w2 ⟨rfl, hb1⟩
  have h1 := h0.trans (hb1.mono h0.size)
  refine hK _ _ h1 ?_
  clear hK K
  try simp only [Act.put, pa, pb, pc]
  (refine hk_t (v := ?_) (by rw [← HO.out]; kernel_rfl) (fun _ _ _ h => h) ?_ h1 ?_; rotate_left; focus (intro w9 h9; go_simp; first | done | with_reducible rfl); all_goals skip)
  simp only [Act.put, pa, pb, pc]
  refine hk_s (by rw [← HO.out]; kernel_rfl) (fun K hK => ?_)
  go_simp
  refine (F2.out _).mono ?_
  rintro x w3 ⟨rfl, hb2⟩
  have h2 := h1.trans (hb2.mono h1.size)
  refine hK _ _ h2 ?_
  clear hK K
  try simp only [Act.put, pa, pb, pc]
  (refine hk_t (v := ?_) (by rw [← HO.out]; kernel_rfl) (fun _ _ _ h => h) ?_ h2 ?_; rotate_left; focus (intro w9 h9; go_simp; first | done | with_reducible rfl); all_goals skip)
  simp only [Act.put, pa, pb, pc]
  refine hk_s (by rw [← HO.out]; kernel_rfl) (fun K hK => ?_)
  go_simp
  refine (F3.out _).mono ?_
  rintro x w4 ⟨rfl, hb3⟩
  have h3 := h2.trans (hb3.mono h2.size)
  refine hK _ _ h3 ?_
  clear hK K
  try simp only [Act.put, pa, pb, pc]
  (refine hk_t (v := ?_) (by rw [← HO.out]; kernel_rfl) (fun _ _ _ h => h) ?_ h3 ?_; rotate_left; focus (intro w9 h9; go_simp; first | done | with_reducible rfl); all_goals skip)
  simp only [Act.put, pa, pb, pc]
  refine hk_s (by rw [← HO.out]; kernel_rfl) (fun K hK => ?_)
  go_simp
  refine (F4.out _).mono ?_
  rintro x w5 ⟨rfl, hb4⟩
  have h4 := h3.trans (hb4.mono h3.size)
  refine hK _ _ h4 ?_
  clear hK K
  try simp only [Act.put, pa, pb, pc]
  (refine hk_t (v := ?_) (by rw [← HO.out]; kernel_rfl) (fun _ _ _ h => h) ?_ h4 ?_; rotate_left; focus (intro w9 h9; go_simp; first | done | with_reducible rfl); all_goals skip)
  simp only [Act.put, pa, pb, pc]
  refine hk_s (by rw [← HO.out]; kernel_rfl) (fun K hK => ?_)
  go_simp
  refine (F5.out _).mono ?_
  rintro x w6 ⟨rfl, hb5⟩
  have h5 := h4.trans (hb5.mono h4.size)
  refine hK _ _ h5 ?_
  clear hK K
  try simp only [Act.put, pa, pb, pc]
  (refine hk_t (v := ?_) (by rw [← HO.out]; kernel_rfl) (fun _ _ _ h => h) ?_ h5 ?_; rotate_left; focus (intro w9 h9; go_simp; first | done | with_reducible rfl); all_goals skip)
  simp only [Act.put, pa, pb, pc]
  (refine hk_t (v := ?_) (by rw [← HO.out]; kernel_rfl) (fun _ _ _ h => h) ?_ h5 ?_; rotate_left; focus (intro w9 h9; go_simp; first | done | with_reducible rfl); all_goals skip)
  simp only [Act.put, pa, pb, pc]
  refine hk_nil (by rw [← HO.out]; kernel_rfl) ?_
  have B9 : Below w.heap.size w w6 := HB.out.trans (h5.mono HB.out.size)
  go_wp2_with fail
  go_ret
  exact ⟨rfl, B9⟩
set_option maxRecDepth 100000 in
set_option maxHeartbeats 2000000 in
theorem short_any (l t u p h o : Nat) (k : Int) (w : World) (hk : k = IntKind.i64.wrap (u : Int)) (hl : l < 18446744073709551616) (ht : t < 18446744073709551616) (hu : u < 18446744073709551616) (hp : p < 18446744073709551616) (hh : h < 18446744073709551616) (ho : o < 18446744073709551616) :
    Calls Try.prog 17 #[.agg (ad l t k p h o)] w fun e w' => e = .returned (.string ⟨(cat (nums l t u p h o) wS 6).toArray⟩) ∧ Below w.heap.size w w' := by
  obtain ⟨s, hs⟩ : ∃ s : Nat → ByteArray, ∀ j, j < 6 → (⟨(fixL (nums l t u p h o j) (wS j)).toArray⟩ : ByteArray) = s j := ⟨fun j => ⟨(fixL (nums l t u p h o j) (wS j)).toArray⟩, fun _ _ => rfl⟩
  rw [cat_six _ _ s hs]
  have F0 := Away.mk (fun w1 => fixed l 1 w1 (by decide) (by decide) hl (s 0) (hs 0 (by decide)))
  have z0 : (s 0).size = 1 := by rw [← hs 0 (by decide)]; show (fixL _ _).toArray.size = _; rw [List.size_toArray, fixL_length]; rfl
  have F1 := Away.mk (fun w1 => fixed t 8 w1 (by decide) (by decide) ht (s 1) (hs 1 (by decide)))
  have z1 : (s 1).size = 8 := by rw [← hs 1 (by decide)]; show (fixL _ _).toArray.size = _; rw [List.size_toArray, fixL_length]; rfl
  have F2 := Away.mk (fun w1 => fixed u 1 w1 (by decide) (by decide) hu (s 2) (hs 2 (by decide)))
  have z2 : (s 2).size = 1 := by rw [← hs 2 (by decide)]; show (fixL _ _).toArray.size = _; rw [List.size_toArray, fixL_length]; rfl
  have F3 := Away.mk (fun w1 => fixed p 4 w1 (by decide) (by decide) hp (s 3) (hs 3 (by decide)))
  have z3 : (s 3).size = 4 := by rw [← hs 3 (by decide)]; show (fixL _ _).toArray.size = _; rw [List.size_toArray, fixL_length]; rfl
  have F4 := Away.mk (fun w1 => fixed h 4 w1 (by decide) (by decide) hh (s 4) (hs 4 (by decide)))
  have z4 : (s 4).size = 4 := by rw [← hs 4 (by decide)]; show (fixL _ _).toArray.size = _; rw [List.size_toArray, fixL_length]; rfl
  have F5 := Away.mk (fun w1 => fixed o 4 w1 (by decide) (by decide) ho (s 5) (hs 5 (by decide)))
  have z5 : (s 5).size = 4 := by rw [← hs 5 (by decide)]; show (fixL _ _).toArray.size = _; rw [List.size_toArray, fixL_length]; rfl
  have hku : IntKind.u64.wrap k = (u : Int) := by rw [hk]; exact wrap_two u hu
  clear hs hk
  generalize s 0 = s0 at F0 z0 ⊢
  generalize s 1 = s1 at F1 z1 ⊢
  generalize s 2 = s2 at F2 z2 ⊢
  generalize s 3 = s3 at F3 z3 ⊢
  generalize s 4 = s4 at F4 z4 ⊢
  generalize s 5 = s5 at F5 z5 ⊢
  unfold ad
  obtain ⟨W, hW⟩ : ∃ x, w.alloc (.cells #[.int .u64 (l : Int), .int .u64 (t : Int), .int .i64 k, .int .u64 (p : Int), .int .u64 (h : Int), .int .u64 (o : Int)] 26) = x := ⟨_, rfl⟩
  obtain ⟨r, -, hb⟩ := one hW
  have HW := Away.mk hW
  have HB := Away.mk hb
  have R := Away.mk r
  have K0 : Away (∀ w9 : World, Below W.heap.size W w9 → w9.cell? ⟨w.heap.size, 0, none⟩ = some (.int .u64 (l : Int))) := ⟨fun w9 hb => cell_at ((hb.block _ (lt_of_row R.out)).trans R.out) rfl⟩
  have K1 : Away (∀ w9 : World, Below W.heap.size W w9 → w9.cell? ⟨w.heap.size, 1, none⟩ = some (.int .u64 (t : Int))) := ⟨fun w9 hb => cell_at ((hb.block _ (lt_of_row R.out)).trans R.out) rfl⟩
  have K2 : Away (∀ w9 : World, Below W.heap.size W w9 → w9.cell? ⟨w.heap.size, 2, none⟩ = some (.int .i64 k)) := ⟨fun w9 hb => cell_at ((hb.block _ (lt_of_row R.out)).trans R.out) rfl⟩
  have K3 : Away (∀ w9 : World, Below W.heap.size W w9 → w9.cell? ⟨w.heap.size, 3, none⟩ = some (.int .u64 (p : Int))) := ⟨fun w9 hb => cell_at ((hb.block _ (lt_of_row R.out)).trans R.out) rfl⟩
  have K4 : Away (∀ w9 : World, Below W.heap.size W w9 → w9.cell? ⟨w.heap.size, 4, none⟩ = some (.int .u64 (h : Int))) := ⟨fun w9 hb => cell_at ((hb.block _ (lt_of_row R.out)).trans R.out) rfl⟩
  have K5 : Away (∀ w9 : World, Below W.heap.size W w9 → w9.cell? ⟨w.heap.size, 5, none⟩ = some (.int .u64 (o : Int))) := ⟨fun w9 hb => cell_at ((hb.block _ (lt_of_row R.out)).trans R.out) rfl⟩
  clear hW r hb
  go_enter Try.func17, Try.ntmps17
  go_wp2_with (rw [HW.out])
  refine hk_begin (W.heap.size) 25 [0, 1, 3, 4, 7, 8, 9, 12, 13, 16, 17, 20, 21, 2, 5, 6, 10, 11, 14, 15, 18, 19, 22, 23, 24] (by kernel_rfl) rfl rfl (by decide) (fun hS ops HO => ?_)
  simp only [List.filterMap_cons, fa, List.getElem?_cons_succ, List.getElem?_cons_zero]
  (refine hk_t (v := ?_) (by rw [← HO.out]; kernel_rfl) (fun _ _ _ h => h) ?_ hS ?_; rotate_left; focus (intro w9 h9; go_simp; first | done | with_reducible rfl); all_goals skip)
  simp only [Act.put, pa, pb, pc]
  (refine hk_t (v := ?_) (by rw [← HO.out]; kernel_rfl) (fun _ _ _ h => h) ?_ hS ?_; rotate_left; focus (intro w9 h9; have hc := K0.out w9 h9; go_simp; first | done | with_reducible rfl); all_goals skip)
  simp only [Act.put, pa, pb, pc]
  (refine hk_t (v := ?_) (by rw [← HO.out]; kernel_rfl) (fun _ _ _ h => h) ?_ hS ?_; rotate_left; focus (intro w9 h9; go_simp; first | done | with_reducible rfl); all_goals skip)
  simp only [Act.put, pa, pb, pc]
  (refine hk_t (v := ?_) (by rw [← HO.out]; kernel_rfl) (fun _ _ _ h => h) ?_ hS ?_; rotate_left; focus (intro w9 h9; have hc := K1.out w9 h9; go_simp; first | done | with_reducible rfl); all_goals skip)
  simp only [Act.put, pa, pb, pc]
  (refine hk_t (v := ?_) (by rw [← HO.out]; kernel_rfl) (fun _ _ _ h => h) ?_ hS ?_; rotate_left; focus (intro w9 h9; go_simp; first | done | with_reducible rfl); all_goals skip)
  simp only [Act.put, pa, pb, pc]
  (refine hk_t (v := ?_) (by rw [← HO.out]; kernel_rfl) (fun _ _ _ h => h) ?_ hS ?_; rotate_left; focus (intro w9 h9; have hc := K2.out w9 h9; go_simp; first | done | with_reducible rfl); all_goals skip)
  simp only [Act.put, pa, pb, pc]
  (refine hk_t (v := ?_) (by rw [← HO.out]; kernel_rfl) (fun _ _ _ h => h) ?_ hS ?_; rotate_left; focus (intro w9 h9; go_simp; first | done | with_reducible rfl); all_goals skip)
  simp only [Act.put, pa, pb, pc]
  (refine hk_t (v := ?_) (by rw [← HO.out]; kernel_rfl) (fun _ _ _ h => h) ?_ hS ?_; rotate_left; focus (intro w9 h9; go_simp; first | done | with_reducible rfl); all_goals skip)
  simp only [Act.put, pa, pb, pc]
  (refine hk_t (v := ?_) (by rw [← HO.out]; kernel_rfl) (fun _ _ _ h => h) ?_ hS ?_; rotate_left; focus (intro w9 h9; have hc := K3.out w9 h9; go_simp; first | done | with_reducible rfl); all_goals skip)
  simp only [Act.put, pa, pb, pc]
  (refine hk_t (v := ?_) (by rw [← HO.out]; kernel_rfl) (fun _ _ _ h => h) ?_ hS ?_; rotate_left; focus (intro w9 h9; go_simp; first | done | with_reducible rfl); all_goals skip)
  simp only [Act.put, pa, pb, pc]
  (refine hk_t (v := ?_) (by rw [← HO.out]; kernel_rfl) (fun _ _ _ h => h) ?_ hS ?_; rotate_left; focus (intro w9 h9; have hc := K4.out w9 h9; go_simp; first | done | with_reducible rfl); all_goals skip)
  simp only [Act.put, pa, pb, pc]
  (refine hk_t (v := ?_) (by rw [← HO.out]; kernel_rfl) (fun _ _ _ h => h) ?_ hS ?_; rotate_left; focus (intro w9 h9; go_simp; first | done | with_reducible rfl); all_goals skip)
  simp only [Act.put, pa, pb, pc]
  (refine hk_t (v := ?_) (by rw [← HO.out]; kernel_rfl) (fun _ _ _ h => h) ?_ hS ?_; rotate_left; focus (intro w9 h9; have hc := K5.out w9 h9; go_simp; first | done | with_reducible rfl); all_goals skip)
  simp only [Act.put, pa, pb, pc]
  refine hk_s (by rw [← HO.out]; kernel_rfl) (fun K hK => ?_)
  go_simp
  refine (F0.out _).mono ?_
  rintro x w1 ⟨rfl, hb0⟩
  have h0 := hS.trans (hb0.mono hS.size)
  refine hK _ _ h0 ?_
  clear hK K
  try simp only [Act.put, pa, pb, pc]
  refine hk_s (by rw [← HO.out]; kernel_rfl) (fun K hK => ?_)
  go_simp
  refine (F1.out _).mono ?_
  rintro x w2 ⟨rfl, hb1⟩
  have h1 := h0.trans (hb1.mono h0.size)
  refine hK _ _ h1 ?_
  clear hK K
  try simp only [Act.put, pa, pb, pc]
  (refine hk_t (v := ?_) (by rw [← HO.out]; kernel_rfl) (fun _ _ _ h => h) ?_ h1 ?_; rotate_left; focus (intro w9 h9; go_simp; first | done | with_reducible rfl); all_goals skip)
  simp only [Act.put, pa, pb, pc]
  refine hk_s (by rw [← HO.out]; kernel_rfl) (fun K hK => ?_)
  go_simp
  refine (F2.out _).mono ?_
  rintro x w3 ⟨rfl, hb2⟩
  have h2 := h1.trans (hb2.mono h1.size)
  refine hK _ _ h2 ?_
  clear hK K
  try simp only [Act.put, pa, pb, pc]
  (refine hk_t (v := ?_) (by rw [← HO.out]; kernel_rfl) (fun _ _ _ h => h) ?_ h2 ?_; rotate_left; focus (intro w9 h9; go_simp; first | done | with_reducible rfl); all_goals skip)
  simp only [Act.put, pa, pb, pc]
  refine hk_s (by rw [← HO.out]; kernel_rfl) (fun K hK => ?_)
  go_simp
  refine (F3.out _).mono ?_
  rintro x w4 ⟨rfl, hb3⟩
  have h3 := h2.trans (hb3.mono h2.size)
  refine hK _ _ h3 ?_
  clear hK K
  try simp only [Act.put, pa, pb, pc]
  (refine hk_t (v := ?_) (by rw [← HO.out]; kernel_rfl) (fun _ _ _ h => h) ?_ h3 ?_; rotate_left; focus (intro w9 h9; go_simp; first | done | with_reducible rfl); all_goals skip)
  simp only [Act.put, pa, pb, pc]
  refine hk_s (by rw [← HO.out]; kernel_rfl) (fun K hK => ?_)
  go_simp
  refine (F4.out _).mono ?_
  rintro x w5 ⟨rfl, hb4⟩
  have h4 := h3.trans (hb4.mono h3.size)
  refine hK _ _ h4 ?_
  clear hK K
  try simp only [Act.put, pa, pb, pc]
  (refine hk_t (v := ?_) (by rw [← HO.out]; kernel_rfl) (fun _ _ _ h => h) ?_ h4 ?_; rotate_left; focus (intro w9 h9; go_simp; first | done | with_reducible rfl); all_goals skip)
  simp only [Act.put, pa, pb, pc]
  refine hk_s (by rw [← HO.out]; kernel_rfl) (fun K hK => ?_)
  go_simp
  refine (F5.out _).mono ?_
  rintro x w6 ⟨rfl, hb5⟩
  have h5 := h4.trans (hb5.mono h4.size)
  refine hK _ _ h5 ?_
  clear hK K
  try simp only [Act.put, pa, pb, pc]
  (refine hk_t (v := ?_) (by rw [← HO.out]; kernel_rfl) (fun _ _ _ h => h) ?_ h5 ?_; rotate_left; focus (intro w9 h9; go_simp; first | done | with_reducible rfl); all_goals skip)
  simp only [Act.put, pa, pb, pc]
  (refine hk_t (v := ?_) (by rw [← HO.out]; kernel_rfl) (fun _ _ _ h => h) ?_ h5 ?_; rotate_left; focus (intro w9 h9; go_simp; first | done | with_reducible rfl); all_goals skip)
  simp only [Act.put, pa, pb, pc]
  refine hk_nil (by rw [← HO.out]; kernel_rfl) ?_
  have B9 : Below w.heap.size w w6 := HB.out.trans (h5.mono HB.out.size)
  go_wp2_with fail
  go_ret
  exact ⟨rfl, B9⟩
end Go.Proofs.Ythggakbomlgkhaa.rat
