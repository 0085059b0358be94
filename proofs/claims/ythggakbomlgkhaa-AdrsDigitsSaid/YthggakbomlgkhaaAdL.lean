/-
  What adrs.Lengths returns, for any six numbers. Conditions: none.
-/
import Derived.Test.YthggakbomlgkhaaAdR
import Derived.Test.YthggakbomlgkhaaShelfL
import Derived.Test.YthggakbomlgkhaaStil
namespace Go.Proofs.Ythggakbomlgkhaa.adl
open Go Go.RowKit
open Go.Proofs.Ythggakbomlgkhaa.arr Go.Proofs.Ythggakbomlgkhaa.mem Go.Proofs.Ythggakbomlgkhaa.stil Go.Proofs.Ythggakbomlgkhaa.adm Go.Proofs.Ythggakbomlgkhaa.ads

theorem bits_len (m : Nat) (h1 : 2 ≤ m) (h2 : m ≤ 32) : (Lib.bitLen (30 * m) + 3) / 4 = if m ≤ 8 then 2 else 3 := by
  have key : ∀ k : Fin 33, 2 ≤ k.val → (Lib.bitLen (30 * k.val) + 3) / 4 = if k.val ≤ 8 then 2 else 3 := by decide +kernel
  exact key ⟨m, by omega⟩ h1
set_option maxRecDepth 100000 in
set_option maxHeartbeats 1000000 in
theorem len_any (n : Nat) (h : n ≤ 100000) (w : World) : Calls Try.prog 22 #[.int .u64 (n : Int)] w fun e w' => e = .returned (.int .i64 ((Lib.bitLen n : Nat) : Int)) ∧ w' = w := by
  go_enter Try.func22, Try.ntmps22
  go_wp2_with fail
  refine (shelf.len64 _ _ (by omega) (by omega)).mono ?_
  rintro e w1 ⟨rfl, hw⟩
  rw [hw]
  clear hw
  go_wp2_with fail
  go_ret
  exact ⟨rfl, rfl⟩
set_option maxRecDepth 100000 in
set_option maxHeartbeats 4000000 in
theorem lengths_bad (f n h d a k : Int) (w : World) (hok : ¬ okF f n h d a k) : Calls Try.prog 8 #[.agg (fo f n h d a k)] w fun e w' => e = .returned (.tuple #[.int .i64 0, .int .i64 0, .int .i64 0]) ∧ Below w.heap.size w w' := by
  obtain ⟨V, HV⟩ := ex_eq (fo f n h d a k)
  have Vi : Away ((Try.prog.info? 23).map (·.size) = some V.size) := ⟨by rw [← HV.out]; kernel_rfl⟩
  have HR : Away (∀ w1 : World, Calls Try.prog 12 #[.agg V] w1 fun e w' => e = .returned (.bool false) ∧ Below w1.heap.size w1 w') := ⟨fun w1 => by rw [← HV.out]; have h9 := adr.right_any f n h d a k w1; rw [decide_eq_false hok] at h9; exact h9⟩
  obtain ⟨W, hW⟩ : ∃ x, w.alloc (.cells V 23) = x := ⟨_, rfl⟩
  have HW := Away.mk hW
  have HB : Away (Below w.heap.size w W) := ⟨by rw [← hW]; exact below_alloc _ _⟩
  have Hrow : Away (W.heap[w.heap.size]? = some (.cells V 23 (0, 0))) := ⟨by rw [← hW]; exact heap_at _ _ _ rfl⟩
  clear hW
  rw [HV.out]
  go_enter Try.func8, Try.ntmps8
  go_wp2_with (first
    | (rw [HW.out])
    | (refine wpList_load_row rfl 23 _ rfl w.heap.size rfl 23 V (0, 0) _ Hrow.out Try.underlying23 rfl Vi.out ?_))
  refine (HR.out _).mono ?_
  rintro e w1 ⟨rfl, hb⟩
  have hrow : w1.heap[w.heap.size]? = some (.cells V 23 (0, 0)) := (hb.block _ (lt_of_row Hrow.out)).trans Hrow.out
  have HB1 : Away (Below w.heap.size w w1) := ⟨HB.out.trans (hb.mono HB.out.size)⟩
  go_wp2_with fail
  go_ret3
  exact ⟨rfl, HB1.out⟩
set_option maxRecDepth 100000 in
set_option maxHeartbeats 4000000 in
theorem lengths_ok (f n h d a k : Int) (w : World) (hok : okF f n h d a k) : Calls Try.prog 8 #[.agg (fo f n h d a k)] w fun e w' => e = .returned (.tuple #[.int .i64 (2 * n), .int .i64 (if n ≤ 8 then 2 else 3), .int .i64 ((k * a + 7) / 8 + (h - h / d + 7) / 8 + (h / d + 7) / 8)]) ∧ Below w.heap.size w w' := by
  have hok' := hok
  obtain ⟨-, ⟨a1, a2⟩, ⟨b1, b2⟩, ⟨c1, c2⟩, ⟨d1, d2⟩, ⟨e1, e2⟩, f1, f2⟩ := hok'
  obtain ⟨n, rfl⟩ := Int.eq_ofNat_of_zero_le (show 0 ≤ n by omega)
  obtain ⟨h, rfl⟩ := Int.eq_ofNat_of_zero_le (show 0 ≤ h by omega)
  obtain ⟨d, rfl⟩ := Int.eq_ofNat_of_zero_le (show 0 ≤ d by omega)
  obtain ⟨a, rfl⟩ := Int.eq_ofNat_of_zero_le (show 0 ≤ a by omega)
  obtain ⟨k, rfl⟩ := Int.eq_ofNat_of_zero_le (show 0 ≤ k by omega)
  obtain ⟨q, hq⟩ : ∃ q : Nat, (h : Int) / (d : Int) = (q : Int) := ⟨h / d, by norm_cast⟩
  rw [hq] at f2 ⊢
  have hq2 : q ≤ h := by
    have e : q = h / d := by
      have : ((h / d : Nat) : Int) = (q : Int) := by rw [← hq]; norm_cast
      omega
    rw [e]; exact Nat.div_le_self _ _
  obtain ⟨x, hx⟩ : ∃ x : Nat, k * a = x := ⟨_, rfl⟩
  have hx2 : x ≤ 490 := by rw [← hx]; exact Nat.mul_le_mul (show k ≤ 35 by omega) (show a ≤ 14 by omega)
  have hxi : (k : Int) * (a : Int) = (x : Int) := by rw [← hx]; norm_cast
  rw [hxi]
  obtain ⟨y, hy⟩ : ∃ y : Nat, h - q = y := ⟨_, rfl⟩
  have hyi : (h : Int) - (q : Int) = (y : Int) := by omega
  rw [hyi]
  obtain ⟨r1, hr1⟩ : ∃ r : Nat, (x + 7) / 8 = r := ⟨_, rfl⟩
  obtain ⟨r2, hr2⟩ : ∃ r : Nat, (y + 7) / 8 = r := ⟨_, rfl⟩
  obtain ⟨r3, hr3⟩ : ∃ r : Nat, (q + 7) / 8 = r := ⟨_, rfl⟩
  have W1 : Away (∀ w1, _) := ⟨fun w1 => ads.whole_any x (by omega) w1⟩
  have W2 : Away (∀ w1, _) := ⟨fun w1 => ads.whole_any y (by omega) w1⟩
  have W3 : Away (∀ w1, _) := ⟨fun w1 => ads.whole_any q (by omega) w1⟩
  rw [hr1] at W1
  rw [hr2] at W2
  rw [hr3] at W3
  rw [show ((x : Int) + 7) / 8 = (r1 : Int) by omega, show ((y : Int) + 7) / 8 = (r2 : Int) by omega, show ((q : Int) + 7) / 8 = (r3 : Int) by omega]
  have g1 : r1 ≤ 100 := by omega
  have g2 : r2 ≤ 100 := by omega
  have g3 : r3 ≤ 100 := by omega
  have u1 : IntKind.i64.wrap (x : Int) = (x : Int) := by rw [IntKind.wrap_i64]; omega
  have u2 : IntKind.i64.wrap (y : Int) = (y : Int) := by rw [IntKind.wrap_i64]; omega
  have u3 : IntKind.i64.wrap ((r1 : Int) + (r2 : Int)) = (r1 : Int) + (r2 : Int) := by rw [IntKind.wrap_i64]; omega
  have u4 : IntKind.i64.wrap ((r1 : Int) + (r2 : Int) + (r3 : Int)) = (r1 : Int) + (r2 : Int) + (r3 : Int) := by rw [IntKind.wrap_i64]; omega
  obtain ⟨s, hs⟩ : ∃ s : Int, (if (n : Int) ≤ 8 then 2 else 3 : Int) = s := ⟨_, rfl⟩
  have HL : Away (∀ w1, _) := ⟨fun w1 => len_any (30 * n) (by omega) w1⟩
  have hbl := bits_len n (by omega) (by omega)
  obtain ⟨B, hB⟩ : ∃ B : Nat, Lib.bitLen (30 * n) = B := ⟨_, rfl⟩
  rw [hB] at HL hbl
  have hB2 : B ≤ 20 := by split at hbl <;> omega
  have hs2 : ((B : Int) + 4 - 1) / 4 = s := by rw [← hs]; split at hbl <;> split <;> omega
  rw [hs]
  clear hs hbl hB hx hy hr1 hr2 hr3
  obtain ⟨V, HV⟩ := ex_eq (fo f (n : Int) (h : Int) (d : Int) (a : Int) (k : Int))
  have Vi : Away ((Try.prog.info? 23).map (·.size) = some V.size) := ⟨by rw [← HV.out]; kernel_rfl⟩
  have HR : Away (∀ w1 : World, Calls Try.prog 12 #[.agg V] w1 fun e w' => e = .returned (.bool true) ∧ Below w1.heap.size w1 w') := ⟨fun w1 => by rw [← HV.out]; have h9 := adr.right_any f n h d a k w1; rw [decide_eq_true hok] at h9; exact h9⟩
  obtain ⟨W, hW⟩ : ∃ x, w.alloc (.cells V 23) = x := ⟨_, rfl⟩
  have HW := Away.mk hW
  have HB : Away (Below w.heap.size w W) := ⟨by rw [← hW]; exact below_alloc _ _⟩
  have Hrow : Away (W.heap[w.heap.size]? = some (.cells V 23 (0, 0))) := ⟨by rw [← hW]; exact heap_at _ _ _ rfl⟩
  clear hW
  rw [HV.out]
  clear hok
  go_enter Try.func8, Try.ntmps8
  go_wp2_with (first
    | (rw [HW.out])
    | (refine wpList_load_row rfl 23 _ rfl w.heap.size rfl 23 V (0, 0) _ Hrow.out Try.underlying23 rfl Vi.out ?_))
  refine (HR.out _).mono ?_
  rintro e w1 ⟨rfl, hb⟩
  have hrow : w1.heap[w.heap.size]? = some (.cells V 23 (0, 0)) := (hb.block _ (lt_of_row Hrow.out)).trans Hrow.out
  have HB1 : Away (Below w.heap.size w w1) := ⟨HB.out.trans (hb.mono HB.out.size)⟩
  have k0 : w1.cell? ⟨w.heap.size, 0, none⟩ = some (.int .i64 f) := by rw [← HV.out] at hrow; exact cell_at hrow rfl
  have k1 : w1.cell? ⟨w.heap.size, 1, none⟩ = some (.int .i64 (n : Int)) := by rw [← HV.out] at hrow; exact cell_at hrow rfl
  have k2 : w1.cell? ⟨w.heap.size, 2, none⟩ = some (.int .i64 (h : Int)) := by rw [← HV.out] at hrow; exact cell_at hrow rfl
  have k3 : w1.cell? ⟨w.heap.size, 3, none⟩ = some (.int .i64 (d : Int)) := by rw [← HV.out] at hrow; exact cell_at hrow rfl
  have k4 : w1.cell? ⟨w.heap.size, 4, none⟩ = some (.int .i64 (a : Int)) := by rw [← HV.out] at hrow; exact cell_at hrow rfl
  have k5 : w1.cell? ⟨w.heap.size, 5, none⟩ = some (.int .i64 (k : Int)) := by rw [← HV.out] at hrow; exact cell_at hrow rfl
  clear hrow hb
  go_wp2_with fail
  rw [show (2 : Int) * (n : Int) * 15 = ((30 * n : Nat) : Int) by omega]
  refine (HL.out _).mono ?_
  rintro e w2 ⟨rfl, hw⟩
  rw [hw]
  clear hw
  go_wp2_with fail
  refine still_all (by kernel_rfl) (by kernel_rfl) ?_
  repeat still_step
  still_call (W1.out _)
  repeat still_step
  still_call (W2.out _)
  repeat still_step
  still_call (W3.out _)
  repeat still_step
  refine wpStill_nil ?_
  go_wp2_with fail
  go_ret3
  exact ⟨rfl, HB1.out.drew⟩
end Go.Proofs.Ythggakbomlgkhaa.adl
