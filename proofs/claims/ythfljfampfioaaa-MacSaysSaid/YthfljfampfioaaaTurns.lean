/-
  What tables.turns and the reference's turns return: by how many bits each lane is turned, as the document computes it; memory that was there before stays as it was. Conditions: none.
-/
import Derived.Test.YthfljfampfioaaaProg
import Derived.Test.YthfljfampfioaaaArr
import Derived.Test.YthfljfampfioaaaTabT
namespace Go.Proofs.Ythfljfampfioaaa.turns
open Go.RowKit
open Go.Proofs.Ythfljfampfioaaa.tabt Go.Proofs.Ythfljfampfioaaa.arr

theorem zturns : (Try.prog.info? 30).map (·.size) = some 25 := by kernel_rfl
theorem mul_bd (k : Nat) (h : k < 24) : (0 : Int) ≤ ((k : Int) + 1) * ((k : Int) + 2) ∧ ((k : Int) + 1) * ((k : Int) + 2) ≤ 650 := by
  have h1 : (k + 1) * (k + 2) ≤ 25 * 26 := Nat.mul_le_mul (by omega) (by omega)
  have h2 : ((k : Int) + 1) * ((k : Int) + 2) = (((k + 1) * (k + 2) : Nat) : Int) := by norm_cast
  rw [h2]; omega
theorem mul_val (k : Nat) : ((k : Int) + 1) * ((k : Int) + 2) / 2 % 64 = (((k + 1) * (k + 2) / 2 % 64 : Nat) : Int) := by
  have h2 : ((k : Int) + 1) * ((k : Int) + 2) = (((k + 1) * (k + 2) : Nat) : Int) := by norm_cast
  rw [h2]; omega

set_option maxRecDepth 100000 in
set_option maxHeartbeats 1000000 in
theorem turns_any (w : World) :
    Calls Try.prog 41 #[] w fun e w' => e = .returned (.agg (LK .i64 (tl 24))) ∧ Below w.heap.size w w' := by
  go_enter Try.func41, Try.ntmps41
  go_wp2_with fail
  obtain ⟨Z, HZ⟩ := ex_eq (#[.int .i64 0, .int .i64 0, .int .i64 0, .int .i64 0, .int .i64 0, .int .i64 0, .int .i64 0, .int .i64 0, .int .i64 0, .int .i64 0, .int .i64 0, .int .i64 0, .int .i64 0, .int .i64 0, .int .i64 0, .int .i64 0, .int .i64 0, .int .i64 0, .int .i64 0, .int .i64 0, .int .i64 0, .int .i64 0, .int .i64 0, .int .i64 0, .int .i64 0] : Array Value)
  rw [HZ.out]
  have HZ2 : Away (Z = LK .i64 (tl 0)) := ⟨HZ.out.symm⟩
  clear HZ
  go_loopw [2, 3, 5] (fun x y i wr => ∃ (k X Y : Nat), k ≤ 24 ∧ i = .int .i64 k ∧ x = .int .i64 X ∧ y = .int .i64 Y ∧ Away (xy k = (X, Y)) ∧ wr = (w.alloc (.cells Z 30)).alloc (.cells (LK .i64 (tl k)) 30)) (fun _ _ i _ => 24 - (intOf i).toNat)
  case atStart => exact ⟨0, 1, 0, by decide, rfl, rfl, rfl, ⟨rfl⟩, by rw [← HZ2.out]⟩
  case round =>
    obtain ⟨k, X, Y, hk, rfl, rfl, rfl, Hxy, rfl⟩ := hrel
    by_cases hlt : k < 24
    · have hb := xy_lt k
      rw [Hxy.out] at hb
      have hX : X < 5 := hb.1
      have hY : Y < 5 := hb.2
      have hm := mul_bd k hlt
      have e1 : ((X : Int) + 5 * (Y : Int)).toNat = X + 5 * Y := by omega
      have hget := lk_get .i64 (tl k) (X + 5 * Y) (by rw [tl_length]; omega)
      have hset := lk_setI .i64 (tl k) (X + 5 * Y) ((k + 1) * (k + 2) / 2 % 64) _ (mul_val k)
      rw [show (tl k).set (X + 5 * Y) ((k + 1) * (k + 2) / 2 % 64) = tl (k + 1) by rw [tl, Hxy.out]] at hset
      have Hn : Away (xy (k + 1) = (Y, (2 * X + 3 * Y) % 5)) := ⟨by rw [xy, Hxy.out]⟩
      clear hb
      go_wp2_with fail
      go_roundw
      case rel => exact ⟨k + 1, Y, (2 * X + 3 * Y) % 5, by omega, by go_num, rfl, val_int (by omega), Hn, rfl⟩
      case measure => simp [intOf]; omega
    · obtain rfl : k = 24 := by omega
      have hsz : (LK .i64 (tl 24)).size = 25 := by rw [lk_size, tl_length]
      have hzs : Z.size = 25 := by rw [HZ2.out, lk_size, tl_length]
      obtain ⟨W, hW⟩ : ∃ W, (w.alloc (.cells Z 30)).alloc (.cells (LK .i64 (tl 24)) 30) = W := ⟨_, rfl⟩
      have hb : Below w.heap.size w W := by rw [← hW]; exact ((Below.refl _ _).alloc (Nat.le_refl _) _).alloc (by simp) _
      have g1 : W.heap[w.heap.size + 1]? = some (.cells (LK .i64 (tl 24)) 30 (0, 0)) := by rw [← hW, heap_at _ _ _ (by simp)]
      have g0 : W.heap[w.heap.size]? = some (.cells Z 30 (0, 0)) := by rw [← hW, heap_past _ _ _ (by simp), heap_at _ _ _ rfl]
      rw [hW]
      clear hW
      have Hsz := Away.mk hsz
      have Hzs := Away.mk hzs
      clear hsz hzs
      go_wp2_with (first | (refine wpList_load_row rfl 30 _ rfl _ rfl 30 _ (0, 0) _ g1 Try.underlying30 rfl (by rw [Hsz.out]; exact zturns) ?_) | (refine wpList_store_row rfl 30 _ _ rfl _ _ rfl rfl 30 _ g0 (by rw [Hsz.out]; exact zturns) (by rw [Hsz.out]; exact Hzs.out) (lk_one _ _) ?_))
      refine bodyPost_ret_by (v := .agg (LK .i64 (tl 24))) (results_cell_row rfl _ _ w.heap.size 30 _ (0, 0) _ rfl (setRow_heap _ _ _ _ _ _ g0) Try.underlying30 rfl (by rw [Hsz.out]; exact zturns)) rfl ?_
      exact ⟨rfl, hb.trans (below_setRow _ _ _ (Nat.le_refl _))⟩

set_option maxRecDepth 100000 in
set_option maxHeartbeats 1000000 in
theorem rturns_any (w : World) :
    Calls Try.prog 23 #[] w fun e w' => e = .returned (.agg (LK .i64 (tl 24))) ∧ Below w.heap.size w w' := by
  go_enter Try.func23, Try.ntmps23
  go_wp2_with fail
  obtain ⟨Z, HZ⟩ := ex_eq (#[.int .i64 0, .int .i64 0, .int .i64 0, .int .i64 0, .int .i64 0, .int .i64 0, .int .i64 0, .int .i64 0, .int .i64 0, .int .i64 0, .int .i64 0, .int .i64 0, .int .i64 0, .int .i64 0, .int .i64 0, .int .i64 0, .int .i64 0, .int .i64 0, .int .i64 0, .int .i64 0, .int .i64 0, .int .i64 0, .int .i64 0, .int .i64 0, .int .i64 0] : Array Value)
  rw [HZ.out]
  have HZ2 : Away (Z = LK .i64 (tl 0)) := ⟨HZ.out.symm⟩
  clear HZ
  go_loopw [2, 3, 5] (fun x y i wr => ∃ (k X Y : Nat), k ≤ 24 ∧ i = .int .i64 k ∧ x = .int .i64 X ∧ y = .int .i64 Y ∧ Away (xy k = (X, Y)) ∧ wr = (w.alloc (.cells Z 30)).alloc (.cells (LK .i64 (tl k)) 30)) (fun _ _ i _ => 24 - (intOf i).toNat)
  case atStart => exact ⟨0, 1, 0, by decide, rfl, rfl, rfl, ⟨rfl⟩, by rw [← HZ2.out]⟩
  case round =>
    obtain ⟨k, X, Y, hk, rfl, rfl, rfl, Hxy, rfl⟩ := hrel
    by_cases hlt : k < 24
    · have hb := xy_lt k
      rw [Hxy.out] at hb
      have hX : X < 5 := hb.1
      have hY : Y < 5 := hb.2
      have hm := mul_bd k hlt
      have e1 : ((X : Int) + 5 * (Y : Int)).toNat = X + 5 * Y := by omega
      have hget := lk_get .i64 (tl k) (X + 5 * Y) (by rw [tl_length]; omega)
      have hset := lk_setI .i64 (tl k) (X + 5 * Y) ((k + 1) * (k + 2) / 2 % 64) _ (mul_val k)
      rw [show (tl k).set (X + 5 * Y) ((k + 1) * (k + 2) / 2 % 64) = tl (k + 1) by rw [tl, Hxy.out]] at hset
      have Hn : Away (xy (k + 1) = (Y, (2 * X + 3 * Y) % 5)) := ⟨by rw [xy, Hxy.out]⟩
      clear hb
      go_wp2_with fail
      go_roundw
      case rel => exact ⟨k + 1, Y, (2 * X + 3 * Y) % 5, by omega, by go_num, rfl, val_int (by omega), Hn, rfl⟩
      case measure => simp [intOf]; omega
    · obtain rfl : k = 24 := by omega
      have hsz : (LK .i64 (tl 24)).size = 25 := by rw [lk_size, tl_length]
      have hzs : Z.size = 25 := by rw [HZ2.out, lk_size, tl_length]
      obtain ⟨W, hW⟩ : ∃ W, (w.alloc (.cells Z 30)).alloc (.cells (LK .i64 (tl 24)) 30) = W := ⟨_, rfl⟩
      have hb : Below w.heap.size w W := by rw [← hW]; exact ((Below.refl _ _).alloc (Nat.le_refl _) _).alloc (by simp) _
      have g1 : W.heap[w.heap.size + 1]? = some (.cells (LK .i64 (tl 24)) 30 (0, 0)) := by rw [← hW, heap_at _ _ _ (by simp)]
      have g0 : W.heap[w.heap.size]? = some (.cells Z 30 (0, 0)) := by rw [← hW, heap_past _ _ _ (by simp), heap_at _ _ _ rfl]
      rw [hW]
      clear hW
      have Hsz := Away.mk hsz
      have Hzs := Away.mk hzs
      clear hsz hzs
      go_wp2_with (first | (refine wpList_load_row rfl 30 _ rfl _ rfl 30 _ (0, 0) _ g1 Try.underlying30 rfl (by rw [Hsz.out]; exact zturns) ?_) | (refine wpList_store_row rfl 30 _ _ rfl _ _ rfl rfl 30 _ g0 (by rw [Hsz.out]; exact zturns) (by rw [Hsz.out]; exact Hzs.out) (lk_one _ _) ?_))
      refine bodyPost_ret_by (v := .agg (LK .i64 (tl 24))) (results_cell_row rfl _ _ w.heap.size 30 _ (0, 0) _ rfl (setRow_heap _ _ _ _ _ _ g0) Try.underlying30 rfl (by rw [Hsz.out]; exact zturns)) rfl ?_
      exact ⟨rfl, hb.trans (below_setRow _ _ _ (Nat.le_refl _))⟩
end Go.Proofs.Ythfljfampfioaaa.turns
