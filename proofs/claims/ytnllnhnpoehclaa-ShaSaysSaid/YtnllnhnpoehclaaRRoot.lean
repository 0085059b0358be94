/-
  What the reference's Root returns for any two numbers: 64 bits of the fraction of p's root, or 0 out of range; memory that was there before stays as it was. Conditions: none but that the numbers are ints.
-/
import Derived.Test.YtnllnhnpoehclaaRTimes
import Derived.Test.YtnllnhnpoehclaaRoot
namespace Go.Proofs.Ytnllnhnpoehclaa.rroot
open Go.RowKit
open Go.Proofs.Ytnllnhnpoehclaa.tabd Go.Proofs.Ytnllnhnpoehclaa.arr Go.Proofs.Ytnllnhnpoehclaa.rtimes Go.Proofs.Ytnllnhnpoehclaa.above
open Go.Proofs.Ytnllnhnpoehclaa.raised (dg_mulmod)
open Go.Proofs.Ytnllnhnpoehclaa.root (join_parts rootV)

def St (p k : Nat) (w : World) (y : Nat) (wr : World) : Prop :=
  wr.heap[w.heap.size]? = some (.cells (LK .u64 (top p k)) 72 (0, 0)) ∧
  wr.heap[w.heap.size + 1]? = some (.cells (LK .u64 (dg 8 y)) 72 (0, 0)) ∧ Below w.heap.size w wr ∧ w.heap.size + 2 ≤ wr.heap.size
theorem st_call {p k : Nat} {w wr w1 : World} {n : Nat} (h : St p k w n wr) (hb : Below wr.heap.size wr w1) : St p k w n w1 := by
  obtain ⟨h1, h2, h4, h5⟩ := h
  have hs := hb.size
  exact ⟨(hb.block _ (by omega)).trans h1, (hb.block _ (by omega)).trans h2, h4.trans (hb.mono (by omega)), by omega⟩
theorem st_store {p k : Nat} {w wr : World} {n t : Nat} (h : St p k w n wr) : St p k w t (wr.setRow (w.heap.size + 1) (LK .u64 (dg 8 t))) := by
  obtain ⟨h1, h2, h4, h5⟩ := h
  exact ⟨by rw [setRow_other _ _ _ _ (by omega)]; exact h1, setRow_heap _ _ _ _ _ _ h2, h4.trans (below_setRow _ _ _ (by omega)), by simpa using h5⟩
theorem top_size (p k : Nat) : (LK .u64 (top p k)).size = 8 := by rw [lk_size, top_length]
theorem heap_lt {w : World} {g : Nat} {o : Obj} (h : w.heap[g]? = some o) : g < w.heap.size := by
  by_cases hlt : g < w.heap.size
  · exact hlt
  · rw [Array.getElem?_eq_none (by omega)] at h; cases h

set_option maxRecDepth 100000 in
set_option maxHeartbeats 2000000 in
theorem root_in2 (p : Nat) (w : World) (hp : p ≤ 1000) :
    Calls Try.prog 23 #[.int .i64 p, .int .i64 2] w fun e w' => e = .returned (.int .u64 ((rootN p 2 % 18446744073709551616 : Nat) : Int)) ∧ Below w.heap.size w w' := by
  have hsd : ∀ v, (LK .u64 (dg 8 v)).size = 8 := fun v => by rw [lk_size, dg_length]
  have Hsd := Away.mk hsd
  clear hsd
  go_enter Try.func23, Try.ntmps23
  go_wp2_with fail
  go_loopw [7] (fun i wr => ∃ n y : Nat, n ≤ 70 ∧ i = .int .i64 (69 - (n : Int)) ∧ Away (rt 70 (p * bp (2 * 2)) 2 n = y) ∧ St p 2 w y wr) (fun i _ => (intOf i + 1).toNat)
  case atStart =>
    refine ⟨0, 0, by decide, rfl, ⟨rfl⟩, ?_, ?_, ?_, ?_⟩
    · rw [heap_past _ _ _ (by simp <;> omega), heap_at _ _ _ rfl]; rfl
    · rw [heap_at _ _ _ (by simp <;> omega)]; rfl
    · exact ((Below.refl _ _).alloc (Nat.le_refl _) _).alloc (by simp <;> omega) _
    · simp
  case round =>
    obtain ⟨n, y, hn, rfl, Hy, hst⟩ := hrel
    have g1 := hst.2.1
    have Hst := Away.mk hst
    clear hst
    by_cases hlt : n < 70
    · obtain ⟨k1, k2, k3, k4, k5⟩ := rt_round (k := 2) (by decide) hp (by decide : 69 ≤ 70) (Nat.le_refl 70) hlt Hy.out
      have HR := Away.mk k5
      obtain ⟨d, hd⟩ : ∃ d, (dg 8 y).getD ((69 - n) / 32) 0 = d := ⟨_, rfl⟩
      have hget := lk_get .u64 (dg 8 y) ((69 - n) / 32) (by rw [dg_length]; omega)
      have hdl := getD_small (dg_small 8 y) ((69 - n) / 32)
      rw [hd] at hget hdl
      have hbit := dg_bit y (69 - n) (by omega) k1 k2
      rw [hd] at hbit
      have Hbit := Away.mk hbit
      have hq8 : (69 - n) / 32 < 8 := by omega
      have hr32 : (69 - n) % 32 < 32 := by omega
      have w36 : (69 - (n : Int)) / 32 = (((69 - n) / 32 : Nat) : Int) := by omega
      have w40 : (69 - (n : Int)) % 32 = (((69 - n) % 32 : Nat) : Int) := by omega
      obtain ⟨q, hq⟩ : ∃ q, (69 - n) / 32 = q := ⟨_, rfl⟩
      obtain ⟨r, hr⟩ : ∃ r, (69 - n) % 32 = r := ⟨_, rfl⟩
      rw [hq] at w36 hget Hbit hq8
      rw [hr] at w40 Hbit hr32
      obtain ⟨t, ht⟩ : ∃ t, y + 2 ^ (70 - 1 - n) = t := ⟨_, rfl⟩
      rw [ht] at k3 k4 HR
      have hset : (LK .u64 (dg 8 y)).setIfInBounds q (.int .u64 (bits .or .u64 (d : Int) (IntKind.u64.wrap (2 ^ r)))) = LK .u64 (dg 8 t) := by
        rw [lk_setI .u64 (dg 8 y) q (d ||| 2 ^ r) _ (or_bit64w d r hdl hr32), ← ht]
        exact congrArg (LK .u64) Hbit.out.1
      have K3 := Away.mk k3
      have K4 := Away.mk k4
      clear hd hbit hq hr ht k1 k2 k3 k4 k5
      go_wp2_with (first | (refine wpList_load_row rfl 72 _ rfl _ rfl 72 _ (0, 0) _ g1 Try.underlying72 rfl (by rw [Hsd.out]; exact zrlong) ?_) | (refine wpList_store_new rfl 72 _ _ rfl _ rfl rfl (by rw [Hsd.out]; exact zrlong) (by rw [Hsd.out]; rfl) (lk_one _ _) rfl ?_) | (refine wpList_load_row rfl 72 _ rfl _ rfl 72 _ (0, 0) _ (heap_at _ _ _ rfl) Try.underlying72 rfl (by rw [Hsd.out]; exact zrlong) ?_))
      refine (times_any _ _ _ (dg_length _ _) (dg_length _ _) (dg_small _ _) (dg_small _ _)).mono ?_
      rintro e w1 ⟨rfl, hb1⟩
      rw [K3.out]
      have hbA : Below wr.heap.size wr w1 := ((Below.refl _ _).alloc (Nat.le_refl _) _).trans (hb1.mono (by simp))
      have g8 := (hb1.block wr.heap.size (by simp)).trans (heap_at wr _ _ rfl)
      have Hst1 := Away.mk (st_call Hst.out hbA)
      have g5 := Hst1.out.1
      have s8 := heap_lt g8
      have s5 := heap_lt g5
      clear hb1 hbA g1
      have KX : Away (t * t = t ^ 2) := ⟨(Nat.pow_two t).symm⟩
      obtain ⟨c, Hc⟩ := ex_eq (decide (val (top p 2) < val (dg 8 (t * t))))
      go_wp2_with (first | (refine wpList_store_new rfl 72 _ _ rfl _ rfl rfl (by rw [Hsd.out]; exact zrlong) (by rw [Hsd.out]; rfl) (lk_one _ _) rfl ?_) | (refine wpList_load_row rfl 72 _ rfl _ rfl 72 _ (0, 0) _ (heap_at _ _ _ rfl) Try.underlying72 rfl (by rw [Hsd.out]; exact zrlong) ?_) | (refine wpList_load_row rfl 72 _ rfl _ rfl 72 _ (0, 0) _ ((heap_past _ _ _ s5).trans g5) Try.underlying72 rfl (by rw [top_size]; exact zrlong) ?_))
      have HstX := Away.mk (st_call Hst1.out ((Below.refl _ _).alloc (Nat.le_refl _) (.cells (LK .u64 (dg 8 (t * t))) 72)))
      have gX8 := (heap_past w1 (.cells (LK .u64 (dg 8 (t * t))) 72) _ s8).trans g8
      refine (rabove_b c _ _ _ (dg_length _ _) (top_length _ _) (dg_small _ _) (top_small _ _ hp) Hc.out).mono ?_
      rintro e w3 ⟨rfl, hb3⟩
      have Hst3 := Away.mk (st_call HstX.out hb3)
      have g83 := (hb3.block _ (heap_lt gX8)).trans gX8
      have g13 := Hst3.out.2.1
      clear hb3
      rw [KX.out, K4.out, val_top p 2 (by decide)] at Hc
      cases c
      · have hle : t ^ 2 ≤ p * bp (2 * 2) := Nat.not_lt.1 (of_decide_eq_false Hc.out)
        have HR2 := Away.mk (HR.out.trans (if_pos hle))
        clear hle
        go_wp2_with (first | (refine wpList_load_row rfl 72 _ rfl _ rfl 72 _ (0, 0) _ g83 Try.underlying72 rfl (by rw [Hsd.out]; exact zrlong) ?_) | (refine wpList_store_row rfl 72 _ _ rfl _ _ rfl rfl 72 _ g13 (by rw [Hsd.out]; exact zrlong) (by rw [Hsd.out, Hsd.out]) (lk_one _ _) ?_))
        go_roundw
        case rel => exact ⟨n + 1, t, by omega, val_int (by omega), HR2, st_store Hst3.out⟩
        case measure => simp [intOf]; omega
      · have hle : ¬ t ^ 2 ≤ p * bp (2 * 2) := Nat.not_le.2 (of_decide_eq_true Hc.out)
        have HR2 := Away.mk (HR.out.trans (if_neg hle))
        clear hle
        go_wp2_with fail
        go_roundw
        case rel => exact ⟨n + 1, y, by omega, val_int (by omega), HR2, Hst3.out⟩
        case measure => simp [intOf]; omega
    · obtain rfl : n = 70 := by omega
      have b1 := getD_small (dg_small 8 y) 1
      have b0 := getD_small (dg_small 8 y) 0
      have c1 := cell_at g1 (lk_get .u64 (dg 8 y) 1 (by rw [dg_length]; decide))
      have c0 := cell_at g1 (lk_get .u64 (dg 8 y) 0 (by rw [dg_length]; decide))
      have hj := join_parts y
      generalize (dg 8 y).getD 1 0 = a at *
      generalize (dg 8 y).getD 0 0 = b at *
      have Hj := Away.mk hj
      clear hj g1
      go_wp2_with fail
      go_ret
      exact ⟨ret_int (by rw [Hj.out, ← Hy.out, rootN_of p 2 70 hp (by decide) (by decide)]), Hst.out.2.2.1⟩

set_option maxRecDepth 100000 in
set_option maxHeartbeats 2000000 in
theorem root_in3 (p : Nat) (w : World) (hp : p ≤ 1000) :
    Calls Try.prog 23 #[.int .i64 p, .int .i64 3] w fun e w' => e = .returned (.int .u64 ((rootN p 3 % 18446744073709551616 : Nat) : Int)) ∧ Below w.heap.size w w' := by
  have hsd : ∀ v, (LK .u64 (dg 8 v)).size = 8 := fun v => by rw [lk_size, dg_length]
  have Hsd := Away.mk hsd
  clear hsd
  go_enter Try.func23, Try.ntmps23
  go_wp2_with fail
  go_loopw [7] (fun i wr => ∃ n y : Nat, n ≤ 70 ∧ i = .int .i64 (69 - (n : Int)) ∧ Away (rt 70 (p * bp (2 * 3)) 3 n = y) ∧ St p 3 w y wr) (fun i _ => (intOf i + 1).toNat)
  case atStart =>
    refine ⟨0, 0, by decide, rfl, ⟨rfl⟩, ?_, ?_, ?_, ?_⟩
    · rw [heap_past _ _ _ (by simp <;> omega), heap_at _ _ _ rfl]; rfl
    · rw [heap_at _ _ _ (by simp <;> omega)]; rfl
    · exact ((Below.refl _ _).alloc (Nat.le_refl _) _).alloc (by simp <;> omega) _
    · simp
  case round =>
    obtain ⟨n, y, hn, rfl, Hy, hst⟩ := hrel
    have g1 := hst.2.1
    have Hst := Away.mk hst
    clear hst
    by_cases hlt : n < 70
    · obtain ⟨k1, k2, k3, k4, k5⟩ := rt_round (k := 3) (by decide) hp (by decide : 69 ≤ 70) (Nat.le_refl 70) hlt Hy.out
      have HR := Away.mk k5
      obtain ⟨d, hd⟩ : ∃ d, (dg 8 y).getD ((69 - n) / 32) 0 = d := ⟨_, rfl⟩
      have hget := lk_get .u64 (dg 8 y) ((69 - n) / 32) (by rw [dg_length]; omega)
      have hdl := getD_small (dg_small 8 y) ((69 - n) / 32)
      rw [hd] at hget hdl
      have hbit := dg_bit y (69 - n) (by omega) k1 k2
      rw [hd] at hbit
      have Hbit := Away.mk hbit
      have hq8 : (69 - n) / 32 < 8 := by omega
      have hr32 : (69 - n) % 32 < 32 := by omega
      have w36 : (69 - (n : Int)) / 32 = (((69 - n) / 32 : Nat) : Int) := by omega
      have w40 : (69 - (n : Int)) % 32 = (((69 - n) % 32 : Nat) : Int) := by omega
      obtain ⟨q, hq⟩ : ∃ q, (69 - n) / 32 = q := ⟨_, rfl⟩
      obtain ⟨r, hr⟩ : ∃ r, (69 - n) % 32 = r := ⟨_, rfl⟩
      rw [hq] at w36 hget Hbit hq8
      rw [hr] at w40 Hbit hr32
      obtain ⟨t, ht⟩ : ∃ t, y + 2 ^ (70 - 1 - n) = t := ⟨_, rfl⟩
      rw [ht] at k3 k4 HR
      have hset : (LK .u64 (dg 8 y)).setIfInBounds q (.int .u64 (bits .or .u64 (d : Int) (IntKind.u64.wrap (2 ^ r)))) = LK .u64 (dg 8 t) := by
        rw [lk_setI .u64 (dg 8 y) q (d ||| 2 ^ r) _ (or_bit64w d r hdl hr32), ← ht]
        exact congrArg (LK .u64) Hbit.out.1
      have K3 := Away.mk k3
      have K4 := Away.mk k4
      clear hd hbit hq hr ht k1 k2 k3 k4 k5
      go_wp2_with (first | (refine wpList_load_row rfl 72 _ rfl _ rfl 72 _ (0, 0) _ g1 Try.underlying72 rfl (by rw [Hsd.out]; exact zrlong) ?_) | (refine wpList_store_new rfl 72 _ _ rfl _ rfl rfl (by rw [Hsd.out]; exact zrlong) (by rw [Hsd.out]; rfl) (lk_one _ _) rfl ?_) | (refine wpList_load_row rfl 72 _ rfl _ rfl 72 _ (0, 0) _ (heap_at _ _ _ rfl) Try.underlying72 rfl (by rw [Hsd.out]; exact zrlong) ?_))
      refine (times_any _ _ _ (dg_length _ _) (dg_length _ _) (dg_small _ _) (dg_small _ _)).mono ?_
      rintro e w1 ⟨rfl, hb1⟩
      rw [K3.out]
      have hbA : Below wr.heap.size wr w1 := ((Below.refl _ _).alloc (Nat.le_refl _) _).trans (hb1.mono (by simp))
      have g8 := (hb1.block wr.heap.size (by simp)).trans (heap_at wr _ _ rfl)
      have Hst1 := Away.mk (st_call Hst.out hbA)
      have g5 := Hst1.out.1
      have s8 := heap_lt g8
      have s5 := heap_lt g5
      clear hb1 hbA g1
      have KX : Away (t * t * t = t ^ 3) := ⟨by rw [Nat.pow_succ, Nat.pow_two]⟩
      obtain ⟨c, Hc⟩ := ex_eq (decide (val (top p 3) < val (dg 8 (t * t * t))))
      go_wp2_with (first | (refine wpList_store_new rfl 72 _ _ rfl _ rfl rfl (by rw [Hsd.out]; exact zrlong) (by rw [Hsd.out]; rfl) (lk_one _ _) rfl ?_) | (refine wpList_load_row rfl 72 _ rfl _ rfl 72 _ (0, 0) _ (heap_at _ _ _ rfl) Try.underlying72 rfl (by rw [Hsd.out]; exact zrlong) ?_) | (refine wpList_load_row rfl 72 _ rfl _ rfl 72 _ (0, 0) _ ((heap_past _ _ _ s8).trans g8) Try.underlying72 rfl (by rw [Hsd.out]; exact zrlong) ?_))
      refine (times_any _ _ _ (dg_length _ _) (dg_length _ _) (dg_small _ _) (dg_small _ _)).mono ?_
      rintro e w2 ⟨rfl, hb2⟩
      rw [dg_mulmod, K3.out]
      have hbB : Below w1.heap.size w1 w2 := ((Below.refl _ _).alloc (Nat.le_refl _) _).trans (hb2.mono (by simp))
      have g9 := (hb2.block w1.heap.size (by simp)).trans (heap_at w1 _ _ rfl)
      have g82 := (hbB.block _ s8).trans g8
      have Hst2 := Away.mk (st_call Hst1.out hbB)
      have g52 := Hst2.out.1
      have e8 : wr.heap.size ≠ w1.heap.size := by omega
      have e5 : w.heap.size ≠ w1.heap.size := by omega
      have hb4 := below_setRow (B := w1.heap.size) w2 w1.heap.size (LK .u64 (dg 8 (t * t * t))) (Nat.le_refl _)
      have HstX := Away.mk (st_call Hst1.out (hbB.trans hb4))
      have gX8 := (setRow_other w2 w1.heap.size _ (LK .u64 (dg 8 (t * t * t))) e8).trans g82
      have gX5 := (setRow_other w2 w1.heap.size _ (LK .u64 (dg 8 (t * t * t))) e5).trans g52
      have gX9 := setRow_heap w2 w1.heap.size _ (LK .u64 (dg 8 (t * t * t))) _ _ g9
      clear hb2 hbB g8 g5 g82 g52 e8 e5 hb4
      go_wp2_with (first | (refine wpList_store_row rfl 72 _ _ rfl _ _ rfl rfl 72 _ g9 (by rw [Hsd.out]; exact zrlong) (by rw [Hsd.out, Hsd.out]) (lk_one _ _) ?_) | (refine wpList_load_row rfl 72 _ rfl _ rfl 72 _ (0, 0) _ gX9 Try.underlying72 rfl (by rw [Hsd.out]; exact zrlong) ?_) | (refine wpList_load_row rfl 72 _ rfl _ rfl 72 _ (0, 0) _ gX5 Try.underlying72 rfl (by rw [top_size]; exact zrlong) ?_))
      refine (rabove_b c _ _ _ (dg_length _ _) (top_length _ _) (dg_small _ _) (top_small _ _ hp) Hc.out).mono ?_
      rintro e w3 ⟨rfl, hb3⟩
      have Hst3 := Away.mk (st_call HstX.out hb3)
      have g83 := (hb3.block _ (heap_lt gX8)).trans gX8
      have g13 := Hst3.out.2.1
      clear hb3
      rw [KX.out, K4.out, val_top p 3 (by decide)] at Hc
      cases c
      · have hle : t ^ 3 ≤ p * bp (2 * 3) := Nat.not_lt.1 (of_decide_eq_false Hc.out)
        have HR2 := Away.mk (HR.out.trans (if_pos hle))
        clear hle
        go_wp2_with (first | (refine wpList_load_row rfl 72 _ rfl _ rfl 72 _ (0, 0) _ g83 Try.underlying72 rfl (by rw [Hsd.out]; exact zrlong) ?_) | (refine wpList_store_row rfl 72 _ _ rfl _ _ rfl rfl 72 _ g13 (by rw [Hsd.out]; exact zrlong) (by rw [Hsd.out, Hsd.out]) (lk_one _ _) ?_))
        go_roundw
        case rel => exact ⟨n + 1, t, by omega, val_int (by omega), HR2, st_store Hst3.out⟩
        case measure => simp [intOf]; omega
      · have hle : ¬ t ^ 3 ≤ p * bp (2 * 3) := Nat.not_le.2 (of_decide_eq_true Hc.out)
        have HR2 := Away.mk (HR.out.trans (if_neg hle))
        clear hle
        go_wp2_with fail
        go_roundw
        case rel => exact ⟨n + 1, y, by omega, val_int (by omega), HR2, Hst3.out⟩
        case measure => simp [intOf]; omega
    · obtain rfl : n = 70 := by omega
      have b1 := getD_small (dg_small 8 y) 1
      have b0 := getD_small (dg_small 8 y) 0
      have c1 := cell_at g1 (lk_get .u64 (dg 8 y) 1 (by rw [dg_length]; decide))
      have c0 := cell_at g1 (lk_get .u64 (dg 8 y) 0 (by rw [dg_length]; decide))
      have hj := join_parts y
      generalize (dg 8 y).getD 1 0 = a at *
      generalize (dg 8 y).getD 0 0 = b at *
      have Hj := Away.mk hj
      clear hj g1
      go_wp2_with fail
      go_ret
      exact ⟨ret_int (by rw [Hj.out, ← Hy.out, rootN_of p 3 70 hp (by decide) (by decide)]), Hst.out.2.2.1⟩

theorem root_out (p k : Int) (w : World) (h : p < 0 ∨ 1000 < p ∨ (k ≠ 2 ∧ k ≠ 3)) :
    Calls Try.prog 23 #[.int .i64 p, .int .i64 k] w fun e w' => e = .returned (.int .u64 0) ∧ Below w.heap.size w w' := by
  by_cases h1 : p < 0
  · clear h
    go_enter Try.func23, Try.ntmps23
    go_wp2_with fail
    go_ret
    exact ⟨rfl, Below.refl _ _⟩
  by_cases h2 : 1000 < p
  · clear h
    go_enter Try.func23, Try.ntmps23
    go_wp2_with fail
    go_ret
    exact ⟨rfl, Below.refl _ _⟩
  obtain ⟨h3, h4⟩ : k ≠ 2 ∧ k ≠ 3 := by omega
  have b3 : (k != 2) = true := by rw [bne_iff_ne]; exact h3
  have b4 : (k != 3) = true := by rw [bne_iff_ne]; exact h4
  clear h h3 h4
  go_enter Try.func23, Try.ntmps23
  go_wp2_with fail
  go_ret
  exact ⟨rfl, Below.refl _ _⟩
theorem root_any (p k : Int) (w : World) :
    Calls Try.prog 23 #[.int .i64 p, .int .i64 k] w fun e w' => e = .returned (.int .u64 (rootV p k : Nat)) ∧ Below w.heap.size w w' := by
  unfold rootV
  by_cases h : p < 0 ∨ 1000 < p ∨ (k ≠ 2 ∧ k ≠ 3)
  · rw [if_pos h]
    exact root_out p k w h
  · rw [if_neg h]
    obtain ⟨a, rfl⟩ := Int.eq_ofNat_of_zero_le (show 0 ≤ p by omega)
    rw [Int.toNat_natCast]
    have hk : k = 2 ∨ k = 3 := by omega
    rcases hk with rfl | rfl
    · exact root_in2 a w (by omega)
    · exact root_in3 a w (by omega)
end Go.Proofs.Ytnllnhnpoehclaa.rroot
