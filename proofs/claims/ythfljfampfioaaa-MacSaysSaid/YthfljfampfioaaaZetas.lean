/-
  What tables.zetas returns, and what the reference's mirrored does: the ring's roots of unity as the document orders them; memory that was there before stays as it was. Conditions: none (of mirrored: a number below 256).
-/
import Derived.Test.YthfljfampfioaaaProg
import Derived.Test.YthfljfampfioaaaArr
import Derived.Test.YthfljfampfioaaaTabT
import Derived.Test.YthfljfampfioaaaPower
namespace Go.Proofs.Ythfljfampfioaaa.zetas
open Go.RowKit
open Go.Proofs.Ythfljfampfioaaa.tabm Go.Proofs.Ythfljfampfioaaa.tabt Go.Proofs.Ythfljfampfioaaa.arr

theorem rev8_get (n : Nat) (h : n < Lib.rev8tab.size) : Lib.rev8 (n : Int) = ((Lib.rev8tab[n].toNat : Nat) : Int) := by
  unfold Lib.rev8
  rw [Int.toNat_natCast, ByteArray.getElem?_lt' _ _ h]
  rfl
set_option maxRecDepth 1000000 in
set_option maxRecDepth 100000 in
set_option maxHeartbeats 400000 in
theorem reverse8 (n : Nat) (w : World) (h : n < 256) :
    Calls Try.prog 61 #[.int .u8 n] w fun e w' => e = .returned (.int .u8 (rv n : Nat)) ∧ w = w' := by
  have hr := Away.mk (rev8_tab n h)
  go_enter Try.func61, Try.ntmps61
  go_wp2_with fail
  go_ret
  exact ⟨ret_int ((rev8_get n _).symm.trans hr.out), rfl⟩

theorem info37 : (Try.prog.info? 31).map (fun i => (i.zero, i.size)) = some (some (.agg (LK .i64 (zl 0))), 256) := by kernel_rfl

set_option maxRecDepth 1000000 in
set_option maxRecDepth 100000 in
set_option maxHeartbeats 1000000 in
theorem zetas_any (w : World) :
    Calls Try.prog 42 #[] w fun e w' => e = .returned (.agg (LK .i64 (zl 256))) ∧ Below w.heap.size w w' := by
  obtain ⟨hz, hsize⟩ := zero_of_info info37
  obtain ⟨Z, HZ⟩ := ex_eq (LK .i64 (zl 0))
  rw [HZ.out] at hz
  have Hsize := Away.mk hsize
  clear hsize
  go_enter Try.func42, Try.ntmps42
  go_wp2_with fail
  clear hz
  go_loopw [3] (fun i wr => ∃ k : Nat, k ≤ 256 ∧ i = .int .i64 k ∧ wr = (w.alloc (.cells Z 31)).alloc (.cells (LK .i64 (zl k)) 31)) (fun i _ => 256 - (intOf i).toNat)
  case atStart => exact ⟨0, by decide, rfl, by rw [HZ.out]⟩
  case round =>
    obtain ⟨k, hk, rfl, rfl⟩ := hrel
    by_cases hlt : k < 256
    · have hget := lk_get .i64 (zl k) k (by rw [zl_length]; omega)
      have hset := lk_set .i64 (zl k) k (zt k)
      rw [show (zl k).set k (zt k) = zl (k + 1) from rfl] at hset
      have hrl := rv_lt k hlt
      have hzt : Away (pw 1753 (rv k) = zt k) := ⟨rfl⟩
      obtain ⟨r, Hr⟩ := ex_eq (rv k)
      rw [Hr.out] at hrl hzt
      go_wp2_with fail
      refine (reverse8 k _ hlt).mono ?_
      rintro e w1 ⟨rfl, rfl⟩
      rw [Hr.out]
      go_wp2_with fail
      refine (power.power_nn 1753 r _ (by decide) (by omega)).mono ?_
      rintro e w1 ⟨rfl, rfl⟩
      rw [hzt.out]
      go_wp2_with fail
      go_roundw
      case rel => exact ⟨k + 1, by omega, by go_num, rfl⟩
      case measure => simp [intOf]; omega
    · obtain rfl : k = 256 := by omega
      have hsz : (LK .i64 (zl 256)).size = 256 := by rw [lk_size, zl_length]
      have hzs : Z.size = 256 := by rw [← HZ.out, lk_size, zl_length]
      obtain ⟨W, hW⟩ : ∃ W, (w.alloc (.cells Z 31)).alloc (.cells (LK .i64 (zl 256)) 31) = W := ⟨_, rfl⟩
      have hb : Below w.heap.size w W := by rw [← hW]; exact ((Below.refl _ _).alloc (Nat.le_refl _) _).alloc (by simp) _
      have g1 : W.heap[w.heap.size + 1]? = some (.cells (LK .i64 (zl 256)) 31 (0, 0)) := by rw [← hW, heap_at _ _ _ (by simp)]
      have g0 : W.heap[w.heap.size]? = some (.cells Z 31 (0, 0)) := by rw [← hW, heap_past _ _ _ (by simp), heap_at _ _ _ rfl]
      rw [hW]
      have Hsz := Away.mk hsz
      have Hzs := Away.mk hzs
      clear hW hsz hzs
      go_wp2_with (first | (refine wpList_load_row rfl 31 _ rfl _ rfl 31 _ (0, 0) _ g1 Try.underlying31 rfl (by rw [Hsz.out]; exact Hsize.out) ?_) | (refine wpList_store_row rfl 31 _ _ rfl _ _ rfl rfl 31 _ g0 (by rw [Hsz.out]; exact Hsize.out) (by rw [Hsz.out]; exact Hzs.out) (lk_one _ _) ?_))
      refine bodyPost_ret_by (v := .agg (LK .i64 (zl 256))) (results_cell_row rfl _ _ w.heap.size 31 _ (0, 0) _ rfl (setRow_heap _ _ _ _ _ _ g0) Try.underlying31 rfl (by rw [Hsz.out]; exact Hsize.out)) rfl ?_
      exact ⟨rfl, hb.trans (below_setRow _ _ _ (Nat.le_refl _))⟩

set_option maxRecDepth 1000000 in
theorem mir_tab : ∀ n : Nat, n < 256 → ∀ k : Nat, k < 8 → bits .or .i64 ((rvTo n k : Nat) : Int) (wrap64 (bits .and .i64 ((n : Int) / 2 ^ k) 1 * 2 ^ (7 - k))) = ((rvTo n (k + 1) : Nat) : Int) := by decide +kernel
set_option maxRecDepth 100000 in
set_option maxHeartbeats 1000000 in
theorem mirrored_any (n : Nat) (w : World) (h : n < 256) :
    Calls Try.prog 25 #[.int .i64 n] w fun e w' => e = .returned (.int .i64 (rv n : Nat)) ∧ w = w' := by
  go_enter Try.func25, Try.ntmps25
  go_wp2_with fail
  go_loop [3, 5] (fun r i => ∃ (k R : Nat), k ≤ 8 ∧ i = .int .i64 k ∧ r = .int .i64 R ∧ Away (rvTo n k = R)) (fun _ i => 8 - (intOf i).toNat)
  case atStart => exact ⟨0, 0, by decide, rfl, rfl, ⟨rfl⟩⟩
  case round =>
    obtain ⟨k, R, hk, rfl, rfl, Hr⟩ := hrel
    by_cases hlt : k < 8
    · have ht := mir_tab n h k hlt
      rw [Hr.out] at ht
      have Hn : Away (rvTo n (k + 1) = rvTo n (k + 1)) := ⟨rfl⟩
      go_wp2_with fail
      go_round
      case rel => exact ⟨k + 1, rvTo n (k + 1), by omega, by go_num, rfl, Hn⟩
      case measure => simp [intOf]; omega
    · obtain rfl : k = 8 := by omega
      go_wp2_with fail
      go_ret
      exact ⟨ret_int (congrArg Nat.cast Hr.out.symm), rfl⟩
end Go.Proofs.Ythfljfampfioaaa.zetas
