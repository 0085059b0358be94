/-
  What tables.Root returns for any two numbers: 64 bits of the fraction of p's root, or 0 out of range; memory that was there before stays as it was. Conditions: none but that the numbers are ints.
-/
import Derived.Test.YthfljfampfioaaaRaised
import Derived.Test.YthfljfampfioaaaAbove
import Derived.RegionTactic
import Derived.BigRegion
namespace Go.Proofs.Ythfljfampfioaaa.root
open Go.RowKit
open Go.Proofs.Ythfljfampfioaaa.tabd Go.Proofs.Ythfljfampfioaaa.arr Go.Proofs.Ythfljfampfioaaa.times Go.Proofs.Ythfljfampfioaaa.raised Go.Proofs.Ythfljfampfioaaa.above

/-- what the loop keeps: the two blocks, and that nothing below has changed -/
def St (p k : Nat) (w : World) (y : Nat) (wr : World) : Prop :=
  wr.heap[w.heap.size]? = some (.cells (LK .u32 (top p k)) 93 (0, 0)) ∧
  wr.heap[w.heap.size + 1]? = some (.cells (LK .u32 (dg 8 y)) 93 (0, 0)) ∧ Below w.heap.size w wr ∧ w.heap.size + 2 ≤ wr.heap.size
theorem st_call {p k : Nat} {w wr w1 : World} {n : Nat} (h : St p k w n wr) (hb : Below wr.heap.size wr w1) : St p k w n w1 := by
  obtain ⟨h1, h2, h4, h5⟩ := h
  have hs := hb.size
  exact ⟨(hb.block _ (by omega)).trans h1, (hb.block _ (by omega)).trans h2, h4.trans (hb.mono (by omega)), by omega⟩
theorem st_store {p k : Nat} {w wr : World} {n t : Nat} (h : St p k w n wr) : St p k w t (wr.setRow (w.heap.size + 1) (LK .u32 (dg 8 t))) := by
  obtain ⟨h1, h2, h4, h5⟩ := h
  exact ⟨by rw [setRow_other _ _ _ _ (by omega)]; exact h1, setRow_heap _ _ _ _ _ _ h2, h4.trans (below_setRow _ _ _ (by omega)), by simpa using h5⟩
theorem top_size (p k : Nat) : (LK .u32 (top p k)).size = 8 := by rw [lk_size, top_length]
/-- the result's two parts together -/
theorem join_parts (y : Nat) : bits .or .u64 ((((dg 8 y).getD 1 0 : Nat) : Int) * 4294967296) (((dg 8 y).getD 0 0 : Nat) : Int) = ((y % 18446744073709551616 : Nat) : Int) := by
  have h1 := getD_small (dg_small 8 y) 1
  have h0 := getD_small (dg_small 8 y) 0
  rw [← low_parts y]
  generalize (dg 8 y).getD 1 0 = a at *
  generalize (dg 8 y).getD 0 0 = b at *
  rw [show (a : Int) * 4294967296 = ((a * 4294967296 : Nat) : Int) by omega, u64_or_nat _ _ (by omega) (by omega)]
  have h := Nat.shiftLeft_add_eq_or_of_lt (i := 32) (b := b) (by omega) a
  rw [Nat.shiftLeft_eq] at h
  exact congrArg Nat.cast h.symm

set_option maxRecDepth 100000 in
set_option maxHeartbeats 2000000 in
theorem root_in2 (p : Nat) (w : World) (hp : p ≤ 1000) :
    Calls Try.prog 44 #[.int .i64 p, .int .i64 2] w fun e w' => e = .returned (.int .u64 ((rootN p 2 % 18446744073709551616 : Nat) : Int)) ∧ Below w.heap.size w w' := by
  have hsd : ∀ v, (LK .u32 (dg 8 v)).size = 8 := fun v => by rw [lk_size, dg_length]
  have Hsd := Away.mk hsd
  clear hsd
  go_enter Try.func44, Try.ntmps44
  go_wp2_with fail
  go_loopw [29] (fun i wr => ∃ n y : Nat, n ≤ 69 ∧ i = .int .i64 n ∧ Away (rt 69 (p * bp (2 * 2)) 2 n = y) ∧ St p 2 w y wr) (fun i _ => 69 - (intOf i).toNat)
  case atStart =>
    refine ⟨0, 0, by decide, rfl, ⟨rfl⟩, ?_, ?_, ?_, ?_⟩
    · rw [heap_past _ _ _ (by simp <;> omega), heap_at _ _ _ rfl]; rfl
    · rw [heap_at _ _ _ (by simp <;> omega)]; rfl
    · exact ((Below.refl _ _).alloc (Nat.le_refl _) _).alloc (by simp <;> omega) _
    · simp
  case round =>
    obtain ⟨n, y, hn, rfl, Hy, hst⟩ := hrel
    have g1 := hst.2.1
    have Hst := Away.mk hst
    clear hst
    by_cases hlt : n < 69
    · obtain ⟨k1, k2, k3, k4, k5⟩ := rt_round (k := 2) (by decide) hp (Nat.le_refl 69) (by decide) hlt Hy.out
      have HR := Away.mk k5
      obtain ⟨d, hd⟩ : ∃ d, (dg 8 y).getD ((68 - n) / 32) 0 = d := ⟨_, rfl⟩
      have hget := lk_get .u32 (dg 8 y) ((68 - n) / 32) (by rw [dg_length]; omega)
      have hdl := getD_small (dg_small 8 y) ((68 - n) / 32)
      rw [hd] at hget hdl
      have hbit := dg_bit y (68 - n) (by omega) k1 k2
      rw [hd] at hbit
      have Hbit := Away.mk hbit
      have hq8 : (68 - n) / 32 < 8 := by omega
      have hr32 : (68 - n) % 32 < 32 := by omega
      have w36 : IntKind.i64.wrap ((68 - (n : Int)).tdiv 32) = (((68 - n) / 32 : Nat) : Int) := by
        rw [Int.tdiv_eq_ediv_of_nonneg (by omega), IntWalk.i64_in _ (by omega)]; omega
      have w40 : (68 - (n : Int)).tmod 32 = (((68 - n) % 32 : Nat) : Int) := by
        rw [Int.tmod_eq_emod_of_nonneg (by omega)]; omega
      obtain ⟨q, hq⟩ : ∃ q, (68 - n) / 32 = q := ⟨_, rfl⟩
      obtain ⟨r, hr⟩ : ∃ r, (68 - n) % 32 = r := ⟨_, rfl⟩
      rw [hq] at w36 hget Hbit hq8
      rw [hr] at w40 Hbit hr32
      obtain ⟨t, ht⟩ : ∃ t, y + 2 ^ (69 - 1 - n) = t := ⟨_, rfl⟩
      rw [ht] at k3 k4 HR
      have hset : (LK .u32 (dg 8 y)).setIfInBounds q (.int .u32 (bits .or .u32 (d : Int) (2 ^ r % 4294967296))) = LK .u32 (dg 8 t) := by
        rw [lk_setI .u32 (dg 8 y) q (d ||| 2 ^ r) _ (or_bit32 d r hdl hr32), ← ht]
        exact congrArg (LK .u32) Hbit.out.1
      have K3 := Away.mk k3
      have K4 := Away.mk k4
      clear hd hbit hq hr ht k1 k2 k3 k4 k5
      go_wp2_with (first | (refine wpList_load_row rfl 93 _ rfl _ rfl 93 _ (0, 0) _ g1 Try.underlying93 rfl (by rw [Hsd.out]; exact zlong) ?_) | (refine wpList_store_new rfl 93 _ _ rfl _ rfl rfl (by rw [Hsd.out]; exact zlong) (by rw [Hsd.out]; rfl) (lk_one _ _) rfl ?_))
      go_region
      go_wp2_with fail
      obtain ⟨W, hW⟩ : ∃ W, (wr.alloc (.cells (LK .u32 (dg 8 t)) 93)).drew = W := ⟨_, rfl⟩
      have gt : W.heap[wr.heap.size]? = some (.cells (LK .u32 (dg 8 t)) 93 (0, 0)) := by
        rw [← hW]; exact heap_at _ _ _ rfl
      have hbW : Below wr.heap.size wr W := by rw [← hW]; exact ((Below.refl _ _).alloc (Nat.le_refl _) _).drew
      have Hst2 := Away.mk (st_call Hst.out hbW)
      have g02 := Hst2.out.1
      rw [hW]
      clear hW hbW g1
      obtain ⟨c, Hc⟩ := ex_eq (decide (val (top p 2) < val (dg 8 (val (dg 8 t) ^ 2))))
      refine wp_region_quiet_below (by kernel_rfl) (by kernel_rfl) ?_
      refine wpQuiet_load rfl 93 _ rfl _ rfl 93 _ _ (fun w' hC => heap_regrown gt hC) Try.underlying93 rfl (by rw [Hsd.out]; exact zlong) ?_
      quiet_step (skip)
      quiet_step (exact Calls.regrown_of (raised_any _ 2 _ (dg_length _ _) (dg_small _ _) (by decide) (by decide)))
      refine wpQuiet_load rfl 93 _ rfl _ rfl 93 _ _ (fun w' hC => heap_regrown g02 hC) Try.underlying93 rfl (by rw [top_size]; exact zlong) ?_
      quiet_step (exact Calls.regrown_of (above_b c _ _ _ (dg_length _ _) (top_length _ _) (dg_small _ _) (top_small _ _ hp) Hc.out))
      quiet_step (skip)
      refine wpQuiet_nil ?_
      intro w3 hC
      have hb3 : Below W.heap.size W w3 := by
        obtain ⟨pp, rfl⟩ := hC
        exact below_regrown _ _ _
      have Hst3 := Away.mk (st_call Hst2.out hb3)
      have gt3 := heap_regrown gt hC
      have g13 := Hst3.out.2.1
      clear hb3 hC gt g02
      rw [K3.out, K4.out, val_top p 2 (by decide)] at Hc
      cases c
      · have hle : t ^ 2 ≤ p * bp (2 * 2) := Nat.not_lt.1 (of_decide_eq_false Hc.out)
        have HR2 := Away.mk (HR.out.trans (if_pos hle))
        clear hle
        go_wp2_with (first | (refine wpList_load_row rfl 93 _ rfl _ rfl 93 _ (0, 0) _ gt3 Try.underlying93 rfl (by rw [Hsd.out]; exact zlong) ?_) | (refine wpList_store_row rfl 93 _ _ rfl _ _ rfl rfl 93 _ g13 (by rw [Hsd.out]; exact zlong) (by rw [Hsd.out, Hsd.out]) (lk_one _ _) ?_))
        go_roundw
        case rel => exact ⟨n + 1, t, by omega, by go_num, HR2, st_store Hst3.out⟩
        case measure => simp [intOf]; omega
      · have hle : ¬ t ^ 2 ≤ p * bp (2 * 2) := Nat.not_le.2 (of_decide_eq_true Hc.out)
        have HR2 := Away.mk (HR.out.trans (if_neg hle))
        clear hle
        go_wp2_with fail
        go_roundw
        case rel => exact ⟨n + 1, y, by omega, by go_num, HR2, Hst3.out⟩
        case measure => simp [intOf]; omega
    · obtain rfl : n = 69 := by omega
      have b1 := getD_small (dg_small 8 y) 1
      have b0 := getD_small (dg_small 8 y) 0
      have c1 := cell_at g1 (lk_get .u32 (dg 8 y) 1 (by rw [dg_length]; decide))
      have c0 := cell_at g1 (lk_get .u32 (dg 8 y) 0 (by rw [dg_length]; decide))
      have hj := join_parts y
      generalize (dg 8 y).getD 1 0 = a at *
      generalize (dg 8 y).getD 0 0 = b at *
      have Hj := Away.mk hj
      clear hj g1
      go_wp2_with fail
      go_ret
      exact ⟨ret_int (by rw [Hj.out, ← Hy.out]; rfl), Hst.out.2.2.1⟩

set_option maxRecDepth 100000 in
set_option maxHeartbeats 2000000 in
theorem root_in3 (p : Nat) (w : World) (hp : p ≤ 1000) :
    Calls Try.prog 44 #[.int .i64 p, .int .i64 3] w fun e w' => e = .returned (.int .u64 ((rootN p 3 % 18446744073709551616 : Nat) : Int)) ∧ Below w.heap.size w w' := by
  have hsd : ∀ v, (LK .u32 (dg 8 v)).size = 8 := fun v => by rw [lk_size, dg_length]
  have Hsd := Away.mk hsd
  clear hsd
  go_enter Try.func44, Try.ntmps44
  go_wp2_with fail
  go_loopw [29] (fun i wr => ∃ n y : Nat, n ≤ 69 ∧ i = .int .i64 n ∧ Away (rt 69 (p * bp (2 * 3)) 3 n = y) ∧ St p 3 w y wr) (fun i _ => 69 - (intOf i).toNat)
  case atStart =>
    refine ⟨0, 0, by decide, rfl, ⟨rfl⟩, ?_, ?_, ?_, ?_⟩
    · rw [heap_past _ _ _ (by simp <;> omega), heap_at _ _ _ rfl]; rfl
    · rw [heap_at _ _ _ (by simp <;> omega)]; rfl
    · exact ((Below.refl _ _).alloc (Nat.le_refl _) _).alloc (by simp <;> omega) _
    · simp
  case round =>
    obtain ⟨n, y, hn, rfl, Hy, hst⟩ := hrel
    have g1 := hst.2.1
    have Hst := Away.mk hst
    clear hst
    by_cases hlt : n < 69
    · obtain ⟨k1, k2, k3, k4, k5⟩ := rt_round (k := 3) (by decide) hp (Nat.le_refl 69) (by decide) hlt Hy.out
      have HR := Away.mk k5
      obtain ⟨d, hd⟩ : ∃ d, (dg 8 y).getD ((68 - n) / 32) 0 = d := ⟨_, rfl⟩
      have hget := lk_get .u32 (dg 8 y) ((68 - n) / 32) (by rw [dg_length]; omega)
      have hdl := getD_small (dg_small 8 y) ((68 - n) / 32)
      rw [hd] at hget hdl
      have hbit := dg_bit y (68 - n) (by omega) k1 k2
      rw [hd] at hbit
      have Hbit := Away.mk hbit
      have hq8 : (68 - n) / 32 < 8 := by omega
      have hr32 : (68 - n) % 32 < 32 := by omega
      have w36 : IntKind.i64.wrap ((68 - (n : Int)).tdiv 32) = (((68 - n) / 32 : Nat) : Int) := by
        rw [Int.tdiv_eq_ediv_of_nonneg (by omega), IntWalk.i64_in _ (by omega)]; omega
      have w40 : (68 - (n : Int)).tmod 32 = (((68 - n) % 32 : Nat) : Int) := by
        rw [Int.tmod_eq_emod_of_nonneg (by omega)]; omega
      obtain ⟨q, hq⟩ : ∃ q, (68 - n) / 32 = q := ⟨_, rfl⟩
      obtain ⟨r, hr⟩ : ∃ r, (68 - n) % 32 = r := ⟨_, rfl⟩
      rw [hq] at w36 hget Hbit hq8
      rw [hr] at w40 Hbit hr32
      obtain ⟨t, ht⟩ : ∃ t, y + 2 ^ (69 - 1 - n) = t := ⟨_, rfl⟩
      rw [ht] at k3 k4 HR
      have hset : (LK .u32 (dg 8 y)).setIfInBounds q (.int .u32 (bits .or .u32 (d : Int) (2 ^ r % 4294967296))) = LK .u32 (dg 8 t) := by
        rw [lk_setI .u32 (dg 8 y) q (d ||| 2 ^ r) _ (or_bit32 d r hdl hr32), ← ht]
        exact congrArg (LK .u32) Hbit.out.1
      have K3 := Away.mk k3
      have K4 := Away.mk k4
      clear hd hbit hq hr ht k1 k2 k3 k4 k5
      go_wp2_with (first | (refine wpList_load_row rfl 93 _ rfl _ rfl 93 _ (0, 0) _ g1 Try.underlying93 rfl (by rw [Hsd.out]; exact zlong) ?_) | (refine wpList_store_new rfl 93 _ _ rfl _ rfl rfl (by rw [Hsd.out]; exact zlong) (by rw [Hsd.out]; rfl) (lk_one _ _) rfl ?_))
      go_region
      go_wp2_with fail
      obtain ⟨W, hW⟩ : ∃ W, (wr.alloc (.cells (LK .u32 (dg 8 t)) 93)).drew = W := ⟨_, rfl⟩
      have gt : W.heap[wr.heap.size]? = some (.cells (LK .u32 (dg 8 t)) 93 (0, 0)) := by
        rw [← hW]; exact heap_at _ _ _ rfl
      have hbW : Below wr.heap.size wr W := by rw [← hW]; exact ((Below.refl _ _).alloc (Nat.le_refl _) _).drew
      have Hst2 := Away.mk (st_call Hst.out hbW)
      have g02 := Hst2.out.1
      rw [hW]
      clear hW hbW g1
      obtain ⟨c, Hc⟩ := ex_eq (decide (val (top p 3) < val (dg 8 (val (dg 8 t) ^ 3))))
      refine wp_region_quiet_below (by kernel_rfl) (by kernel_rfl) ?_
      refine wpQuiet_load rfl 93 _ rfl _ rfl 93 _ _ (fun w' hC => heap_regrown gt hC) Try.underlying93 rfl (by rw [Hsd.out]; exact zlong) ?_
      quiet_step (skip)
      quiet_step (exact Calls.regrown_of (raised_any _ 3 _ (dg_length _ _) (dg_small _ _) (by decide) (by decide)))
      refine wpQuiet_load rfl 93 _ rfl _ rfl 93 _ _ (fun w' hC => heap_regrown g02 hC) Try.underlying93 rfl (by rw [top_size]; exact zlong) ?_
      quiet_step (exact Calls.regrown_of (above_b c _ _ _ (dg_length _ _) (top_length _ _) (dg_small _ _) (top_small _ _ hp) Hc.out))
      quiet_step (skip)
      refine wpQuiet_nil ?_
      intro w3 hC
      have hb3 : Below W.heap.size W w3 := by
        obtain ⟨pp, rfl⟩ := hC
        exact below_regrown _ _ _
      have Hst3 := Away.mk (st_call Hst2.out hb3)
      have gt3 := heap_regrown gt hC
      have g13 := Hst3.out.2.1
      clear hb3 hC gt g02
      rw [K3.out, K4.out, val_top p 3 (by decide)] at Hc
      cases c
      · have hle : t ^ 3 ≤ p * bp (2 * 3) := Nat.not_lt.1 (of_decide_eq_false Hc.out)
        have HR2 := Away.mk (HR.out.trans (if_pos hle))
        clear hle
        go_wp2_with (first | (refine wpList_load_row rfl 93 _ rfl _ rfl 93 _ (0, 0) _ gt3 Try.underlying93 rfl (by rw [Hsd.out]; exact zlong) ?_) | (refine wpList_store_row rfl 93 _ _ rfl _ _ rfl rfl 93 _ g13 (by rw [Hsd.out]; exact zlong) (by rw [Hsd.out, Hsd.out]) (lk_one _ _) ?_))
        go_roundw
        case rel => exact ⟨n + 1, t, by omega, by go_num, HR2, st_store Hst3.out⟩
        case measure => simp [intOf]; omega
      · have hle : ¬ t ^ 3 ≤ p * bp (2 * 3) := Nat.not_le.2 (of_decide_eq_true Hc.out)
        have HR2 := Away.mk (HR.out.trans (if_neg hle))
        clear hle
        go_wp2_with fail
        go_roundw
        case rel => exact ⟨n + 1, y, by omega, by go_num, HR2, Hst3.out⟩
        case measure => simp [intOf]; omega
    · obtain rfl : n = 69 := by omega
      have b1 := getD_small (dg_small 8 y) 1
      have b0 := getD_small (dg_small 8 y) 0
      have c1 := cell_at g1 (lk_get .u32 (dg 8 y) 1 (by rw [dg_length]; decide))
      have c0 := cell_at g1 (lk_get .u32 (dg 8 y) 0 (by rw [dg_length]; decide))
      have hj := join_parts y
      generalize (dg 8 y).getD 1 0 = a at *
      generalize (dg 8 y).getD 0 0 = b at *
      have Hj := Away.mk hj
      clear hj g1
      go_wp2_with fail
      go_ret
      exact ⟨ret_int (by rw [Hj.out, ← Hy.out]; rfl), Hst.out.2.2.1⟩

/-- the numbers that Root returns -/
def rootV (p k : Int) : Nat := if p < 0 ∨ 1000 < p ∨ (k ≠ 2 ∧ k ≠ 3) then 0 else rootN p.toNat k.toNat % 18446744073709551616
theorem root_out (p k : Int) (w : World) (h : p < 0 ∨ 1000 < p ∨ (k ≠ 2 ∧ k ≠ 3)) :
    Calls Try.prog 44 #[.int .i64 p, .int .i64 k] w fun e w' => e = .returned (.int .u64 0) ∧ Below w.heap.size w w' := by
  by_cases h1 : p < 0
  · clear h
    go_enter Try.func44, Try.ntmps44
    go_wp2_with fail
    go_ret
    exact ⟨rfl, Below.refl _ _⟩
  by_cases h2 : 1000 < p
  · clear h
    go_enter Try.func44, Try.ntmps44
    go_wp2_with fail
    go_ret
    exact ⟨rfl, Below.refl _ _⟩
  obtain ⟨h3, h4⟩ : k ≠ 2 ∧ k ≠ 3 := by omega
  have b3 : (k != 2) = true := by rw [bne_iff_ne]; exact h3
  have b4 : (k != 3) = true := by rw [bne_iff_ne]; exact h4
  clear h h3 h4
  go_enter Try.func44, Try.ntmps44
  go_wp2_with fail
  go_ret
  exact ⟨rfl, Below.refl _ _⟩
theorem root_any (p k : Int) (w : World) :
    Calls Try.prog 44 #[.int .i64 p, .int .i64 k] w fun e w' => e = .returned (.int .u64 (rootV p k : Nat)) ∧ Below w.heap.size w w' := by
  unfold rootV
  by_cases h : p < 0 ∨ 1000 < p ∨ (k ≠ 2 ∧ k ≠ 3)
  · rw [if_pos h]
    exact root_out p k w h
  · rw [if_neg h]
    obtain ⟨a, rfl⟩ := Int.eq_ofNat_of_zero_le (show 0 ≤ p by omega)
    rw [Int.toNat_natCast]
    have hk : k = 2 ∨ k = 3 := by omega
    rcases hk with rfl | rfl
    · exact root_in2 a w (by omega)
    · exact root_in3 a w (by omega)
end Go.Proofs.Ythfljfampfioaaa.root
