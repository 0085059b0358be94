/-
  What field's modulo and Reduce return. Conditions: none for Reduce; modulo's second number is positive and at most 2^62.
  What field's Centre returns. Conditions: none.
  What field.size and field.Size return. Conditions: the polynomials lie in a row in one block.
-/
import Derived.Test.YtjdcmnmnjkkpiaaDoorPuA
import Derived.Test.YtjdcmnmnjkkpiaaDoorProg
namespace Go.Proofs.YtjdcmnmnjkkpiaaDoor.fld1
open Go Go.RowKit
open Go.Proofs.YtjdcmnmnjkkpiaaDoor.arr Go.Proofs.YtjdcmnmnjkkpiaaDoor.mem Go.Proofs.YtjdcmnmnjkkpiaaDoor.fldm

set_option maxRecDepth 100000 in
set_option maxHeartbeats 1000000 in
theorem modulo_any (x m : Int) (h0 : 0 < m) (h1 : m ≤ 4611686018427387904) (w : World) : Calls Tryd.prog 80 #[.int .i64 x, .int .i64 m] w fun e w' => e = .returned (.int .i64 (x % m)) ∧ w' = w := by
  obtain ⟨z, hz⟩ : ∃ z, x % m = z := ⟨_, rfl⟩
  obtain ⟨y, hy⟩ : ∃ y, x.tmod m = y := ⟨_, rfl⟩
  have h := tmod_is x m h0
  have hb : 0 ≤ z ∧ z < m := by rw [← hz]; exact ⟨Int.emod_nonneg _ (by omega), Int.emod_lt_of_pos _ (by omega)⟩
  have hm0 : ¬ m = 0 := by omega
  have hm1 : (m == 0) = false := beq_eq_false_iff_ne.2 hm0
  rw [hz, hy] at h
  rw [hz]
  rcases h with ⟨h2, h3⟩ | ⟨h2, h3⟩
  · subst h3
    have h4 : ¬ y < 0 := by omega
    clear hz hb
    go_enter Tryd.func80, Tryd.ntmps80
    go_wp2_with fail
    go_ret
    exact ⟨rfl, rfl⟩
  · have hw : IntKind.i64.wrap (y + m) = z := by rw [IntKind.wrap_i64]; omega
    have h3' := Away.mk h3
    clear hz hb h3
    go_enter Tryd.func80, Tryd.ntmps80
    go_wp2_with fail
    go_ret
    exact ⟨by first | rfl | rw [← h3'.out], rfl⟩
set_option maxRecDepth 100000 in
set_option maxHeartbeats 1000000 in
theorem reduce_any (x : Int) (w : World) : Calls Tryd.prog 59 #[.int .i64 x] w fun e w' => e = .returned (.int .i64 (x % 8380417)) ∧ w' = w := by
  obtain ⟨z, hz⟩ := ex_eq (x % 8380417)
  rw [hz.out]
  have H : ∀ w1 : World, Calls Tryd.prog 80 #[.int .i64 x, .int .i64 8380417] w1 fun e w' => e = .returned (.int .i64 z) ∧ w' = w1 := fun w1 => by rw [← hz.out]; exact modulo_any x 8380417 (by decide) (by decide) w1
  go_enter Tryd.func59, Tryd.ntmps59
  go_wp2_with fail
  refine (H _).mono ?_
  rintro e w1 ⟨rfl, rfl⟩
  go_wp2_with fail
  go_ret
  exact ⟨rfl, rfl⟩
end Go.Proofs.YtjdcmnmnjkkpiaaDoor.fld1

namespace Go.Proofs.YtjdcmnmnjkkpiaaDoor.fld1
open Go Go.RowKit
open Go.Proofs.YtjdcmnmnjkkpiaaDoor.arr Go.Proofs.YtjdcmnmnjkkpiaaDoor.mem Go.Proofs.YtjdcmnmnjkkpiaaDoor.fldm

set_option maxRecDepth 100000 in
set_option maxHeartbeats 1000000 in
theorem centre_any (x m : Int) (w : World) : Calls Tryd.prog 74 #[.int .i64 x, .int .i64 m] w fun e w' => e = .returned (.int .i64 (ce m x)) ∧ w' = w := by
  unfold ce
  by_cases h0 : m < 1
  · rw [if_pos (Or.inl h0)]
    go_enter Tryd.func74, Tryd.ntmps74
    go_wp2_with fail
    go_ret
    exact ⟨rfl, rfl⟩
  · by_cases h1 : 1125899906842624 < m
    · rw [if_pos (Or.inr h1)]
      go_enter Tryd.func74, Tryd.ntmps74
      go_wp2_with fail
      go_ret
      exact ⟨rfl, rfl⟩
    · rw [if_neg (by omega)]
      obtain ⟨z, hz⟩ := ex_eq (x % m)
      have hb : 0 ≤ z ∧ z < m := by rw [← hz.out]; exact ⟨Int.emod_nonneg _ (by omega), Int.emod_lt_of_pos _ (by omega)⟩
      rw [hz.out]
      have H : ∀ w1 : World, Calls Tryd.prog 80 #[.int .i64 x, .int .i64 m] w1 fun e w' => e = .returned (.int .i64 z) ∧ w' = w1 := fun w1 => by rw [← hz.out]; exact modulo_any x m (by omega) (by omega) w1
      have hw : IntKind.i64.wrap (m - z) = m - z := by rw [IntKind.wrap_i64]; omega
      have hw2 : IntKind.i64.wrap (z - m) = z - m := by rw [IntKind.wrap_i64]; omega
      by_cases h5 : m / 2 < z
      · rw [if_pos h5]
        have h6 : m - z < z := by omega
        clear h5
        go_enter Tryd.func74, Tryd.ntmps74
        go_wp2_with fail
        refine (H _).mono ?_
        rintro e w1 ⟨rfl, rfl⟩
        go_wp2_with fail
        go_ret
        exact ⟨rfl, rfl⟩
      · rw [if_neg h5]
        have h6 : ¬ m - z < z := by omega
        clear h5
        go_enter Tryd.func74, Tryd.ntmps74
        go_wp2_with fail
        refine (H _).mono ?_
        rintro e w1 ⟨rfl, rfl⟩
        go_wp2_with fail
        go_ret
        exact ⟨rfl, rfl⟩
end Go.Proofs.YtjdcmnmnjkkpiaaDoor.fld1

namespace Go.Proofs.YtjdcmnmnjkkpiaaDoor.fsize
open Go Go.RowKit
open Go.Proofs.YtjdcmnmnjkkpiaaDoor.arr Go.Proofs.YtjdcmnmnjkkpiaaDoor.mem Go.Proofs.YtjdcmnmnjkkpiaaDoor.stil Go.Proofs.YtjdcmnmnjkkpiaaDoor.polys Go.Proofs.YtjdcmnmnjkkpiaaDoor.polt Go.Proofs.YtjdcmnmnjkkpiaaDoor.fldm Go.Proofs.YtjdcmnmnjkkpiaaDoor.fld1

set_option maxRecDepth 100000 in
set_option maxHeartbeats 4000000 in
theorem one_any (g o : Nat) (h : Nat → Int) (w : World) (hc : ∀ i, i < 256 → w.cell? ⟨g, o + i, none⟩ = some (.int .i64 (h i))) :
    Calls Tryd.prog 51 #[.pointer (some ⟨g, o, none⟩)] w fun e w' => e = .returned (.int .i64 (cb h 256)) ∧ w' = w := by
  have Hc := Away.mk hc
  clear hc
  go_enter Tryd.func51, Tryd.ntmps51
  go_wp2_with fail
  go_loopw [7, 3] (fun v m wr => ∃ i : Nat, i ≤ 256 ∧ v = .int .i64 (i : Int) ∧ m = .int .i64 (cb h i) ∧ w = wr) (fun v _ _ => 256 - (intOf v).toNat)
  case atStart => exact ⟨0, Nat.zero_le _, rfl, rfl, rfl⟩
  case round =>
    obtain ⟨i, hi, rfl, rfl, rfl⟩ := hrel
    by_cases hlt : i < 256
    · have hiz : (i : Int) < 256 := by omega
      have cc := Hc.out i hlt
      obtain ⟨x, hx⟩ : ∃ x, h i = x := ⟨_, rfl⟩
      rw [hx] at cc
      obtain ⟨m, hm⟩ : ∃ m, cb h i = m := ⟨_, rfl⟩
      have hmb := cb_bound h i
      rw [hm] at hmb ⊢
      obtain ⟨c, hcc⟩ := ex_eq (ce 8380417 x)
      have hcb := ce_bound x
      rw [hcc.out] at hcb
      obtain ⟨k, hk⟩ := ex_eq (-c)
      have Hs : Away (cb h (i + 1) = max m (max c k)) := ⟨by rw [cb, hm, hx, hcc.out, hk.out]⟩
      have Hx : ∀ w1 : World, Calls Tryd.prog 74 #[.int .i64 x, .int .i64 8380417] w1 fun e w' => e = .returned (.int .i64 c) ∧ w' = w1 := fun w1 => by rw [← hcc.out]; exact centre_any x 8380417 w1
      have hw : IntKind.i64.wrap (-c) = k := by rw [IntKind.wrap_i64]; have := hk.out; omega
      clear hx hm
      go_wp2_with fail
      refine (Hx _).mono ?_
      rintro e w3 ⟨rfl, hw3⟩
      subst hw3
      go_wp2_with fail
      all_goals go_roundw
      case rel => exact ⟨i + 1, by omega, by go_num, by rw [Hs.out]; congr 1; omega, by first | trivial | rfl⟩
      case measure => simp [intOf]; omega
    · obtain rfl : i = 256 := by omega
      simp only [Int.cast_ofNat_Int]
      go_wp2_with fail
      go_ret
      exact ⟨rfl, rfl⟩
set_option maxRecDepth 100000 in
set_option maxHeartbeats 4000000 in
theorem size_any (g n c : Nat) (p : Nat → Nat → Int) (w : World) (hn : n ≤ 1000000000000) (hc : ∀ j, j < n → ∀ i, i < 256 → w.cell? ⟨g, j * 256 + i, none⟩ = some (.int .i64 (p j i))) :
    Calls Tryd.prog 25 #[.slice (some ⟨g, 0, none⟩) n c] w fun e w' => e = .returned (.int .i64 (cbs p n)) ∧ w' = w := by
  have Hc : Away (∀ j, j < n → ∀ w1 : World, w = w1 → Calls Tryd.prog 51 #[.pointer (some ⟨g, j * 256, none⟩)] w1 fun e w' => e = .returned (.int .i64 (cb (p j) 256)) ∧ w1 = w') := ⟨fun j hj w1 hw => by subst hw; exact (one_any g (j * 256) (p j) w (hc j hj)).mono fun _ _ h => ⟨h.1, h.2.symm⟩⟩
  clear hc
  go_enter Tryd.func25, Tryd.ntmps25
  go_wp2_with fail
  go_loopw [7, 3] (fun v m wr => ∃ i : Nat, i ≤ n ∧ v = .int .i64 (i : Int) ∧ m = .int .i64 (cbs p i) ∧ w = wr) (fun v _ _ => n - (intOf v).toNat)
  case atStart => exact ⟨0, Nat.zero_le _, rfl, rfl, rfl⟩
  case round =>
    obtain ⟨i, hi, rfl, rfl, rfl⟩ := hrel
    by_cases hlt : i < n
    · have hiz : (i : Int) < (n : Int) := by omega
      have hcall := Hc.out i hlt
      obtain ⟨m, hm⟩ : ∃ m, cbs p i = m := ⟨_, rfl⟩
      have hmb := cbs_bound p i
      rw [hm] at hmb ⊢
      obtain ⟨b, hb⟩ : ∃ b, cb (p i) 256 = b := ⟨_, rfl⟩
      have Hs : Away (cbs p (i + 1) = max m b) := ⟨by rw [cbs, hm, hb]⟩
      rw [hb] at hcall
      clear hm hb
      go_wp2_with fail
      refine (hcall _ rfl).mono ?_
      rintro e w3 ⟨rfl, hw3⟩
      subst hw3
      go_wp2_with fail
      all_goals go_roundw
      case rel => exact ⟨i + 1, by omega, by go_num, by rw [Hs.out]; congr 1; omega, by first | trivial | rfl⟩
      case measure => simp [intOf]; omega
    · obtain rfl : i = n := by omega
      go_wp2_with fail
      go_ret
      exact ⟨rfl, rfl⟩
end Go.Proofs.YtjdcmnmnjkkpiaaDoor.fsize
