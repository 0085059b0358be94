/-
  What field.size and field.Size return. Conditions: the polynomials lie in a row in one block.
-/
import Derived.Test.YtoplboemnabkpaaFld1
import Derived.Test.YtoplboemnabkpaaPolT
namespace Go.Proofs.Ytoplboemnabkpaa.fsize
open Go Go.RowKit
open Go.Proofs.Ytoplboemnabkpaa.arr Go.Proofs.Ytoplboemnabkpaa.mem Go.Proofs.Ytoplboemnabkpaa.stil Go.Proofs.Ytoplboemnabkpaa.polys Go.Proofs.Ytoplboemnabkpaa.polt Go.Proofs.Ytoplboemnabkpaa.fldm Go.Proofs.Ytoplboemnabkpaa.fld1

set_option maxRecDepth 100000 in
set_option maxHeartbeats 4000000 in
theorem one_any (g o : Nat) (h : Nat → Int) (w : World) (hc : ∀ i, i < 256 → w.cell? ⟨g, o + i, none⟩ = some (.int .i64 (h i))) :
    Calls Try.prog 12 #[.pointer (some ⟨g, o, none⟩)] w fun e w' => e = .returned (.int .i64 (cb h 256)) ∧ w' = w := by
  have Hc := Away.mk hc
  clear hc
  go_enter Try.func12, Try.ntmps12
  go_wp2_with fail
  go_loopw [7, 3] (fun v m wr => ∃ i : Nat, i ≤ 256 ∧ v = .int .i64 (i : Int) ∧ m = .int .i64 (cb h i) ∧ w = wr) (fun v _ _ => 256 - (intOf v).toNat)
  case atStart => exact ⟨0, Nat.zero_le _, rfl, rfl, rfl⟩
  case round =>
    obtain ⟨i, hi, rfl, rfl, rfl⟩ := hrel
    by_cases hlt : i < 256
    · have hiz : (i : Int) < 256 := by omega
      have cc := Hc.out i hlt
      obtain ⟨x, hx⟩ : ∃ x, h i = x := ⟨_, rfl⟩
      rw [hx] at cc
      obtain ⟨m, hm⟩ : ∃ m, cb h i = m := ⟨_, rfl⟩
      have hmb := cb_bound h i
      rw [hm] at hmb ⊢
      obtain ⟨c, hcc⟩ := ex_eq (ce 8380417 x)
      have hcb := ce_bound x
      rw [hcc.out] at hcb
      obtain ⟨k, hk⟩ := ex_eq (-c)
      have Hs : Away (cb h (i + 1) = max m (max c k)) := ⟨by rw [cb, hm, hx, hcc.out, hk.out]⟩
      have Hx : ∀ w1 : World, Calls Try.prog 5 #[.int .i64 x, .int .i64 8380417] w1 fun e w' => e = .returned (.int .i64 c) ∧ w' = w1 := fun w1 => by rw [← hcc.out]; exact centre_any x 8380417 w1
      have hw : IntKind.i64.wrap (-c) = k := by rw [IntKind.wrap_i64]; have := hk.out; omega
      clear hx hm
      go_wp2_with fail
      refine (Hx _).mono ?_
      rintro e w3 ⟨rfl, hw3⟩
      subst hw3
      go_wp2_with fail
      all_goals go_roundw
      case rel => exact ⟨i + 1, by omega, by go_num, by rw [Hs.out]; congr 1; omega, by first | trivial | rfl⟩
      case measure => simp [intOf]; omega
    · obtain rfl : i = 256 := by omega
      simp only [Int.cast_ofNat_Int]
      go_wp2_with fail
      go_ret
      exact ⟨rfl, rfl⟩
set_option maxRecDepth 100000 in
set_option maxHeartbeats 4000000 in
theorem size_any (g n c : Nat) (p : Nat → Nat → Int) (w : World) (hn : n ≤ 1000000000000) (hc : ∀ j, j < n → ∀ i, i < 256 → w.cell? ⟨g, j * 256 + i, none⟩ = some (.int .i64 (p j i))) :
    Calls Try.prog 8 #[.slice (some ⟨g, 0, none⟩) n c] w fun e w' => e = .returned (.int .i64 (cbs p n)) ∧ w' = w := by
  have Hc : Away (∀ j, j < n → ∀ w1 : World, w = w1 → Calls Try.prog 12 #[.pointer (some ⟨g, j * 256, none⟩)] w1 fun e w' => e = .returned (.int .i64 (cb (p j) 256)) ∧ w1 = w') := ⟨fun j hj w1 hw => by subst hw; exact (one_any g (j * 256) (p j) w (hc j hj)).mono fun _ _ h => ⟨h.1, h.2.symm⟩⟩
  clear hc
  go_enter Try.func8, Try.ntmps8
  go_wp2_with fail
  go_loopw [7, 3] (fun v m wr => ∃ i : Nat, i ≤ n ∧ v = .int .i64 (i : Int) ∧ m = .int .i64 (cbs p i) ∧ w = wr) (fun v _ _ => n - (intOf v).toNat)
  case atStart => exact ⟨0, Nat.zero_le _, rfl, rfl, rfl⟩
  case round =>
    obtain ⟨i, hi, rfl, rfl, rfl⟩ := hrel
    by_cases hlt : i < n
    · have hiz : (i : Int) < (n : Int) := by omega
      have hcall := Hc.out i hlt
      obtain ⟨m, hm⟩ : ∃ m, cbs p i = m := ⟨_, rfl⟩
      have hmb := cbs_bound p i
      rw [hm] at hmb ⊢
      obtain ⟨b, hb⟩ : ∃ b, cb (p i) 256 = b := ⟨_, rfl⟩
      have Hs : Away (cbs p (i + 1) = max m b) := ⟨by rw [cbs, hm, hb]⟩
      rw [hb] at hcall
      clear hm hb
      go_wp2_with fail
      refine (hcall _ rfl).mono ?_
      rintro e w3 ⟨rfl, hw3⟩
      subst hw3
      go_wp2_with fail
      all_goals go_roundw
      case rel => exact ⟨i + 1, by omega, by go_num, by rw [Hs.out]; congr 1; omega, by first | trivial | rfl⟩
      case measure => simp [intOf]; omega
    · obtain rfl : i = n := by omega
      go_wp2_with fail
      go_ret
      exact ⟨rfl, rfl⟩
end Go.Proofs.Ytoplboemnabkpaa.fsize
