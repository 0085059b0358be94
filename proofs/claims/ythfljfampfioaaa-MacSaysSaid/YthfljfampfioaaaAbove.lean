/-
  What tables.above and the reference's above return for any two long numbers: whether the first is greater; memory that was there before stays as it was. Conditions: each argument has eight parts of 32 bits.
-/
import Derived.Test.YthfljfampfioaaaProg
import Derived.Test.YthfljfampfioaaaArr
namespace Go.Proofs.Ythfljfampfioaaa.above
open Go.RowKit
open Go.Proofs.Ythfljfampfioaaa.tabd Go.Proofs.Ythfljfampfioaaa.arr

theorem ret_bool {a b : Bool} (h : a = b) : Ending.returned (.bool a) = .returned (.bool b) := by rw [h]
theorem gt_of (us vs : List Nat) (k : Nat) (h : Same us vs (k + 1)) (hu : us.length = 8) (hv : vs.length = 8) (su : Small us) (sv : Small vs) (hk : k < 8) (hne : us.getD k 0 ≠ vs.getD k 0) :
    decide (vs.getD k 0 < us.getD k 0) = decide (val vs < val us) := by
  rcases Nat.lt_or_gt_of_ne hne with h1 | h1
  · have := same_lt h (by omega) (by omega) su h1
    rw [decide_eq_false (by omega), decide_eq_false (by omega)]
  · have := same_lt (a := vs) (b := us) (k := k) h.symm (by omega) (by omega) sv h1
    rw [decide_eq_true (by omega), decide_eq_true (by omega)]

set_option maxHeartbeats 400000 in
theorem above_any (us vs : List Nat) (w : World) (hu : us.length = 8) (hv : vs.length = 8) (su : Small us) (sv : Small vs) :
    Calls Try.prog 63 #[.agg (LK .u32 us), .agg (LK .u32 vs)] w fun e w' => e = .returned (.bool (decide (val vs < val us))) ∧ Below w.heap.size w w' := by
  have Hu := Lib.hid hu
  have Hv := Lib.hid hv
  have Su := Lib.hid su
  have Sv := Lib.hid sv
  have HS := Lib.hid (show Same us vs (8 - 0) from by unfold Same; rw [List.drop_of_length_le (by omega), List.drop_of_length_le (by omega)])
  clear hu hv su sv
  go_enter Try.func63, Try.ntmps63
  go_wp2
  go_loopw [7] (fun i wr => ∃ (k n : Nat), k ≤ 8 ∧ i = .int .i64 k ∧ Hid (Same us vs (8 - k)) ∧ wr = ((w.alloc (.cells (LK .u32 us) 93)).alloc (.cells (LK .u32 vs) 93)).drewN n) (fun i _ => 8 - (intOf i).toNat)
  case atStart => exact ⟨0, 0, by decide, rfl, HS, rfl⟩
  case round =>
    obtain ⟨k, n, hk, rfl, hs, rfl⟩ := hrel
    clear HS
    have hbel : ∀ n, Below w.heap.size w (((w.alloc (.cells (LK .u32 us) 93)).alloc (.cells (LK .u32 vs) 93)).drewN n) := fun n => below_drewN (((Below.refl _ _).alloc (Nat.le_refl _) _).alloc (by simp) _) n
    have Hbel := Lib.hid hbel
    clear hbel
    by_cases hlt : k < 8
    · have hgu := lk_get .u32 us (7 - k) (by rw [Hu.out]; omega)
      have hgv := lk_get .u32 vs (7 - k) (by rw [Hv.out]; omega)
      have e1 : (7 - (k : Int)).toNat = 7 - k := by omega
      have hs' : Same us vs (7 - k + 1) := by rw [show 7 - k + 1 = 8 - k by omega]; exact hs.out
      by_cases he : us.getD (7 - k) 0 = vs.getD (7 - k) 0
      · have hn := Lib.hid (same_step hs' (by rw [Hu.out]; omega) (by rw [Hv.out]; omega) he)
        rw [he] at hgu
        obtain ⟨x, hx⟩ : ∃ x, vs.getD (7 - k) 0 = x := ⟨_, rfl⟩
        rw [hx] at hgu hgv
        clear he hx hs' hs
        go_wp2_with fail
        go_quiet (fail)
        go_wp2_with fail
        go_roundw
        case rel => exact ⟨k + 1, _, by omega, by go_num, by rw [show 8 - (k + 1) = 7 - k by omega]; exact hn, rfl⟩
        case measure => simp [intOf]; omega
      · have hg := Lib.hid (gt_of us vs (7 - k) hs' Hu.out Hv.out Su.out Sv.out (by omega) he)
        obtain ⟨x, hx⟩ : ∃ x, us.getD (7 - k) 0 = x := ⟨_, rfl⟩
        obtain ⟨y, hy⟩ : ∃ y, vs.getD (7 - k) 0 = y := ⟨_, rfl⟩
        rw [hx, hy] at hg
        rw [hx] at hgu
        rw [hy] at hgv
        rw [hx, hy] at he
        have b1 : ((x : Int) == (y : Int)) = false := beq_eq_false_iff_ne.2 (by omega)
        have b2 : ((x : Int) != (y : Int)) = true := by rw [bne_iff_ne]; omega
        clear he hx hy hs' hs
        go_wp2_with fail
        go_quiet (fail)
        go_wp2_with fail
        go_quiet (fail)
        go_wp2_with fail
        go_ret
        exact ⟨ret_bool hg.out, below_drewN (below_drewN (Hbel.out _) _) _⟩
    · obtain rfl : k = 8 := by omega
      have hz := Lib.hid (same_zero hs.out)
      go_wp2_with fail
      go_ret
      exact ⟨ret_bool (by rw [hz.out]; simp), Hbel.out _⟩

/-! ### The reference -/
set_option maxHeartbeats 400000 in
theorem rabove_any (us vs : List Nat) (w : World) (hu : us.length = 8) (hv : vs.length = 8) (su : Small us) (sv : Small vs) :
    Calls Try.prog 48 #[.agg (LK .u64 us), .agg (LK .u64 vs)] w fun e w' => e = .returned (.bool (decide (val vs < val us))) ∧ Below w.heap.size w w' := by
  have Hu := Lib.hid hu
  have Hv := Lib.hid hv
  have Su := Lib.hid su
  have Sv := Lib.hid sv
  have HS := Lib.hid (show Same us vs (8 - 0) from by unfold Same; rw [List.drop_of_length_le (by omega), List.drop_of_length_le (by omega)])
  clear hu hv su sv
  go_enter Try.func48, Try.ntmps48
  go_wp2
  go_loopw [5] (fun i wr => ∃ (k n : Nat), k ≤ 8 ∧ i = .int .i64 (7 - (k : Int)) ∧ Hid (Same us vs (8 - k)) ∧ wr = ((w.alloc (.cells (LK .u64 us) 75)).alloc (.cells (LK .u64 vs) 75)).drewN n) (fun i _ => (intOf i + 1).toNat)
  case atStart => exact ⟨0, 0, by decide, rfl, HS, rfl⟩
  case round =>
    obtain ⟨k, n, hk, rfl, hs, rfl⟩ := hrel
    clear HS
    have hbel : ∀ n, Below w.heap.size w (((w.alloc (.cells (LK .u64 us) 75)).alloc (.cells (LK .u64 vs) 75)).drewN n) := fun n => below_drewN (((Below.refl _ _).alloc (Nat.le_refl _) _).alloc (by simp) _) n
    have Hbel := Lib.hid hbel
    clear hbel
    by_cases hlt : k < 8
    · have hgu := lk_get .u64 us (7 - k) (by rw [Hu.out]; omega)
      have hgv := lk_get .u64 vs (7 - k) (by rw [Hv.out]; omega)
      have e1 : (7 - (k : Int)).toNat = 7 - k := by omega
      have hs' : Same us vs (7 - k + 1) := by rw [show 7 - k + 1 = 8 - k by omega]; exact hs.out
      by_cases he : us.getD (7 - k) 0 = vs.getD (7 - k) 0
      · have hn := Lib.hid (same_step hs' (by rw [Hu.out]; omega) (by rw [Hv.out]; omega) he)
        rw [he] at hgu
        obtain ⟨x, hx⟩ : ∃ x, vs.getD (7 - k) 0 = x := ⟨_, rfl⟩
        rw [hx] at hgu hgv
        clear he hx hs' hs
        go_wp2_with fail
        go_quiet (fail)
        go_wp2_with fail
        go_roundw
        case rel => exact ⟨k + 1, _, by omega, val_int (by omega), by rw [show 8 - (k + 1) = 7 - k by omega]; exact hn, rfl⟩
        case measure => simp [intOf]; omega
      · have hg := Lib.hid (gt_of us vs (7 - k) hs' Hu.out Hv.out Su.out Sv.out (by omega) he)
        obtain ⟨x, hx⟩ : ∃ x, us.getD (7 - k) 0 = x := ⟨_, rfl⟩
        obtain ⟨y, hy⟩ : ∃ y, vs.getD (7 - k) 0 = y := ⟨_, rfl⟩
        rw [hx, hy] at hg
        rw [hx] at hgu
        rw [hy] at hgv
        rw [hx, hy] at he
        have b1 : ((x : Int) == (y : Int)) = false := beq_eq_false_iff_ne.2 (by omega)
        have b2 : ((x : Int) != (y : Int)) = true := by rw [bne_iff_ne]; omega
        clear he hx hy hs' hs
        go_wp2_with fail
        go_quiet (fail)
        go_wp2_with fail
        go_quiet (fail)
        go_wp2_with fail
        go_ret
        exact ⟨ret_bool hg.out, below_drewN (below_drewN (Hbel.out _) _) _⟩
    · obtain rfl : k = 8 := by omega
      have hz := Lib.hid (same_zero hs.out)
      go_wp2_with fail
      go_ret
      exact ⟨ret_bool (by rw [hz.out]; simp), Hbel.out _⟩
theorem above_b (c : Bool) (us vs : List Nat) (w : World) (hu : us.length = 8) (hv : vs.length = 8) (su : Small us) (sv : Small vs) (hc : decide (val vs < val us) = c) :
    Calls Try.prog 63 #[.agg (LK .u32 us), .agg (LK .u32 vs)] w fun e w' => e = .returned (.bool c) ∧ Below w.heap.size w w' := by
  subst hc; exact above_any us vs w hu hv su sv
theorem rabove_b (c : Bool) (us vs : List Nat) (w : World) (hu : us.length = 8) (hv : vs.length = 8) (su : Small us) (sv : Small vs) (hc : decide (val vs < val us) = c) :
    Calls Try.prog 48 #[.agg (LK .u64 us), .agg (LK .u64 vs)] w fun e w' => e = .returned (.bool c) ∧ Below w.heap.size w w' := by
  subst hc; exact rabove_any us vs w hu hv su sv
end Go.Proofs.Ythfljfampfioaaa.above
