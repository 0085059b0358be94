/-
  What ntt's split does to the polynomial behind its pointer: the pairs of one block are turned, the rest stays as it was. Conditions: as the theorem says (the block lies within the polynomial, all is reduced). What ntt's join does to the polynomial behind its pointer: the pairs of one block are turned, the rest stays as it was. Conditions: as the theorem says (the block lies within the polynomial, all is reduced).
-/
import Derived.Test.YtlcafjdehcddcaaGreatDoorFlA
import Derived.Test.YtlcafjdehcddcaaGreatDoorPuA
import Derived.Test.YtlcafjdehcddcaaGreatDoorNtm
namespace Go.Proofs.YtlcafjdehcddcaaGreatDoor
namespace nsplit
open Go Go.RowKit
open arr mem stil polys polt fldm fld1 nttm nttl floa
set_option maxRecDepth 100000 in
set_option maxHeartbeats 4000000 in
theorem split_any (L : (Nat → Int) → Nat → Int) (g s t b : Nat) (z : Int) (f : Nat → Int) (w : World) (hb : b = 2 * s * t) (hs : b + 2 * s ≤ 256) (hz : 0 ≤ z ∧ z < 8380417) (hf : ∀ j, 0 ≤ f j ∧ f j < 8380417)
 (hL : ∀ r, r < s → L f (2 * s * t + r) = f (2 * s * t + r) + z * f (2 * s * t + r + s) ∧ L f (2 * s * t + r + s) = f (2 * s * t + r) - z * f (2 * s * t + r + s))
 (hA : w.heap[g]? = some (.cells (FL .i64 256 (dn L s f (t * s))) 25 (0, 0))) :
 Calls Tryz.prog 92 #[.pointer (some ⟨g, 0, none⟩), .int .i64 (b : Int), .int .i64 (s : Int), .int .i64 z] w fun e w' => e = .returned (.tuple #[]) ∧ At g (FL .i64 256 (dn L s f ((t + 1) * s))) 25 w w' := by
 have HA := Away.mk hA
 have HL := Away.mk hL
 have Hz := Away.mk hz
 have Hf := Away.mk hf
 have Hb := Away.mk hb
 have Hs := Away.mk hs
 have Hend : Away (t * s + s = (t + 1) * s) := ⟨by rw [Nat.succ_mul]⟩
 have Hred := Away.mk reduce_any
 clear hA hL hz hf hb hs
 go_enter Tryz.func92, Tryz.ntmps92
 go_wp2_with fail
 go_loopw [13] (fun v wr => ∃ r : Nat, r ≤ s ∧ v = .int .i64 (r : Int) ∧ Away (At g (FL .i64 256 (dn L s f (t * s + r))) 25 w wr)) (fun v _ => s - (intOf v).toNat)
 case atStart => exact ⟨0, Nat.zero_le _, rfl, ⟨At.refl HA.out⟩⟩
 case round =>
  obtain ⟨r, hr, rfl, A0⟩ := hrel
  by_cases hlt : r < s
  ·have hrz : (r : Int) < (s : Int) := by omega
   have hr1 : (r : Int) < 128 := by have := Hs.out; omega
   obtain ⟨lo, hlo⟩ : ∃ lo, b + r = lo := ⟨_, rfl⟩
   obtain ⟨hi, hhi⟩ : ∃ hi, lo + s = hi := ⟨_, rfl⟩
   have hb := Hb.out
   have hs := Hs.out
   have elo : 2 * s * t + r = lo := by omega
   have ehi : 2 * s * t + r + s = hi := by omega
   have hiz : (hi : Int) < 256 := by omega
   have loz : (lo : Int) < 256 := by omega
   have Hhi : Away (hi < 256) := ⟨by omega⟩
   have Hlo : Away (lo < 256) := ⟨by omega⟩
   have f1 : IntKind.i64.wrap ((b : Int) + (r : Int)) = (lo : Int) := by rw [IntKind.wrap_i64]; omega
   have f2 : IntKind.i64.wrap ((lo : Int) + (s : Int)) = (hi : Int) := by rw [IntKind.wrap_i64]; omega
   obtain ⟨x, hx⟩ : ∃ x, f lo = x := ⟨_, rfl⟩
   obtain ⟨y, hy⟩ : ∃ y, f hi = y := ⟨_, rfl⟩
   have hxb : 0 ≤ x ∧ x < 8380417 := by rw [← hx]; exact Hf.out lo
   have hyb : 0 ≤ y ∧ y < 8380417 := by rw [← hy]; exact Hf.out hi
   have hzb := Hz.out
   have cx : wr.cell? ⟨g, lo, none⟩ = some (.int .i64 x) := by
    have h9 := fl_at A0.out.row lo Hlo.out
    rw [← elo, dn_lo L hlt, elo, hx] at h9
    exact h9
   have cy : wr.cell? ⟨g, hi, none⟩ = some (.int .i64 y) := by
    have h9 := fl_at A0.out.row hi Hhi.out
    rw [← ehi, dn_hi L hlt, ehi, hy] at h9
    exact h9
   have hP := HL.out r hlt
   rw [ehi, elo, hx, hy] at hP
   have hp : 0 ≤ z * y ∧ z * y ≤ 8380417 * 8380417 := ⟨Int.mul_nonneg hzb.1 hyb.1, Int.le_trans (Int.mul_le_mul_of_nonneg_right (Int.le_of_lt hzb.2) hyb.1) (Int.mul_le_mul_of_nonneg_left (Int.le_of_lt hyb.2) (by decide))⟩
   obtain ⟨p, hpe⟩ : ∃ p, z * y = p := ⟨_, rfl⟩
   rw [hpe] at hp hP
   have f3 : IntKind.i64.wrap (z * y) = p := by rw [hpe, IntKind.wrap_i64]; omega
   have f4 : IntKind.i64.wrap (x + p) = x + p := by rw [IntKind.wrap_i64]; omega
   have f5 : IntKind.i64.wrap (x - p) = x - p := by rw [IntKind.wrap_i64]; omega
   obtain ⟨v1, hv1⟩ := ex_eq ((x + p) % 8380417)
   obtain ⟨v2, hv2⟩ := ex_eq ((x - p) % 8380417)
   have H1 : ∀ w1 : World, Calls Tryz.prog 54 #[.int .i64 (x + p)] w1 fun e w' => e = .returned (.int .i64 v1) ∧ w' = w1 := fun w1 => by rw [← hv1.out]; exact Hred.out _ w1
   have H2 : ∀ w1 : World, Calls Tryz.prog 54 #[.int .i64 (x - p)] w1 fun e w' => e = .returned (.int .i64 v2) ∧ w' = w1 := fun w1 => by rw [← hv2.out]; exact Hred.out _ w1
   have HU : Away (upd (upd (dn L s f (t * s + r)) lo v1) hi v2 = dn L s f (t * s + (r + 1))) := ⟨by
    have h9 := (dn_step (t := t) L hlt f v1 v2 (by rw [elo, hP.1]; exact hv1.out.symm) (by rw [ehi, hP.2]; exact hv2.out.symm)).2
    rw [elo, hhi] at h9
    exact h9⟩
   clear hx hy hxb hyb hzb hP hb hs elo ehi hlo hhi hp hpe
   go_wp2_with fail
   refine any_begin (by kernel_rfl) ?_
   (focus (refine wpAny_take (i := 2) (v := ?_) rfl (by kernel_rfl) (by kernel_rfl) (by kernel_rfl) (fun _ _ _ h => h) (Or.inl ⟨by rfl, ?_⟩) ?_; rotate_left; focus (intro w; go_simp; first | done | with_reducible rfl); all_goals skip))
   (focus (refine wpAny_take (i := 3) (v := ?_) rfl (by kernel_rfl) (by kernel_rfl) (by kernel_rfl) (fun _ _ _ h => h) (Or.inl ⟨by rfl, ?_⟩) ?_; rotate_left; focus (intro w; go_simp; first | done | with_reducible rfl); all_goals skip))
   (focus (refine wpAny_take (i := 23) (v := ?_) rfl (by kernel_rfl) (by kernel_rfl) (by kernel_rfl) (fun _ _ _ h => h) (Or.inl ⟨by rfl, ?_⟩) ?_; rotate_left; focus (intro w; go_simp; first | done | with_reducible rfl); all_goals skip))
   refine any_still [0, 1, 4, 5, 6, 7, 8, 9, 10, 11, 12, 13, 14, 15, 16, 17, 18, 19, 20, 21] 22 [24, 25] rfl (by kernel_rfl) ?_
   simp only [pick, List.filterMap_cons, List.filterMap_nil, List.getElem?_cons_succ, List.getElem?_cons_zero]
   repeat still_step
   still_call (H1 _)
   repeat still_step
   still_call (H2 _)
   repeat still_step
   refine wpStill_nil ?_
   have A1 : Away (At g (FL .i64 256 (dn L s f (t * s + r))) 25 w wr.drew) := ⟨at_drew A0.out⟩
   clear A0 cx cy
   with_reducible refine wpList_put2 A1 rfl _ _ _ rfl rfl ?_
   refine ⟨_, _, _, rfl, rfl, rfl, by rw [fl_size]; exact Hlo.out, ?_⟩
   intro w5 A2
   rw [fl_set] at A2
   clear A1
   refine wpList_plain rfl (fun K hK => ?_)
   go_simp
   refine hK _ _ ?_
   clear hK K
   with_reducible refine wpList_put2 A2 rfl _ _ _ rfl rfl ?_
   refine ⟨_, _, _, rfl, rfl, rfl, (by rw [fl_size]; exact Hhi.out), ?_⟩
   intro w6 A3
   rw [fl_set, HU.out] at A3
   clear A2
   go_wp2_with fail
   go_roundw
   case rel => exact ⟨r + 1, by omega, by go_num, A3⟩
   case measure => simp [intOf]; omega
  ·obtain rfl : r = s := by omega
   rw [Hend.out] at A0
   go_wp2_with fail
   refine bodyPost_end (v := .tuple #[]) (results_none rfl _ _ _) rfl ?_
   exact ⟨rfl, A0.out⟩
end nsplit
namespace njoin
open Go Go.RowKit
open arr mem stil polys polt fldm fld1 nttm nttl floa
set_option maxRecDepth 100000 in
set_option maxHeartbeats 4000000 in
theorem join_any (L : (Nat → Int) → Nat → Int) (g s t b : Nat) (z : Int) (f : Nat → Int) (w : World) (hb : b = 2 * s * t) (hs : b + 2 * s ≤ 256) (hz : 0 ≤ z ∧ z < 8380417) (hf : ∀ j, 0 ≤ f j ∧ f j < 8380417)
 (hL : ∀ r, r < s → L f (2 * s * t + r) = f (2 * s * t + r) + f (2 * s * t + r + s) ∧ L f (2 * s * t + r + s) = -z * (f (2 * s * t + r) - f (2 * s * t + r + s)))
 (hA : w.heap[g]? = some (.cells (FL .i64 256 (dn L s f (t * s))) 25 (0, 0))) :
 Calls Tryz.prog 93 #[.pointer (some ⟨g, 0, none⟩), .int .i64 (b : Int), .int .i64 (s : Int), .int .i64 z] w fun e w' => e = .returned (.tuple #[]) ∧ At g (FL .i64 256 (dn L s f ((t + 1) * s))) 25 w w' := by
 have HA := Away.mk hA
 have HL := Away.mk hL
 have Hz := Away.mk hz
 have Hf := Away.mk hf
 have Hb := Away.mk hb
 have Hs := Away.mk hs
 have Hend : Away (t * s + s = (t + 1) * s) := ⟨by rw [Nat.succ_mul]⟩
 have Hred := Away.mk reduce_any
 clear hA hL hz hf hb hs
 go_enter Tryz.func93, Tryz.ntmps93
 go_wp2_with fail
 go_loopw [14] (fun v wr => ∃ r : Nat, r ≤ s ∧ v = .int .i64 (r : Int) ∧ Away (At g (FL .i64 256 (dn L s f (t * s + r))) 25 w wr)) (fun v _ => s - (intOf v).toNat)
 case atStart => exact ⟨0, Nat.zero_le _, rfl, ⟨At.refl HA.out⟩⟩
 case round =>
  obtain ⟨r, hr, rfl, A0⟩ := hrel
  by_cases hlt : r < s
  ·have hrz : (r : Int) < (s : Int) := by omega
   have hr1 : (r : Int) < 128 := by have := Hs.out; omega
   obtain ⟨lo, hlo⟩ : ∃ lo, b + r = lo := ⟨_, rfl⟩
   obtain ⟨hi, hhi⟩ : ∃ hi, lo + s = hi := ⟨_, rfl⟩
   have hb := Hb.out
   have hs := Hs.out
   have elo : 2 * s * t + r = lo := by omega
   have ehi : 2 * s * t + r + s = hi := by omega
   have hiz : (hi : Int) < 256 := by omega
   have loz : (lo : Int) < 256 := by omega
   have Hhi : Away (hi < 256) := ⟨by omega⟩
   have Hlo : Away (lo < 256) := ⟨by omega⟩
   have f1 : IntKind.i64.wrap ((b : Int) + (r : Int)) = (lo : Int) := by rw [IntKind.wrap_i64]; omega
   have f2 : IntKind.i64.wrap ((lo : Int) + (s : Int)) = (hi : Int) := by rw [IntKind.wrap_i64]; omega
   obtain ⟨x, hx⟩ : ∃ x, f lo = x := ⟨_, rfl⟩
   obtain ⟨y, hy⟩ : ∃ y, f hi = y := ⟨_, rfl⟩
   have hxb : 0 ≤ x ∧ x < 8380417 := by rw [← hx]; exact Hf.out lo
   have hyb : 0 ≤ y ∧ y < 8380417 := by rw [← hy]; exact Hf.out hi
   have hzb := Hz.out
   have cx : wr.cell? ⟨g, lo, none⟩ = some (.int .i64 x) := by
    have h9 := fl_at A0.out.row lo Hlo.out
    rw [← elo, dn_lo L hlt, elo, hx] at h9
    exact h9
   have cy : wr.cell? ⟨g, hi, none⟩ = some (.int .i64 y) := by
    have h9 := fl_at A0.out.row hi Hhi.out
    rw [← ehi, dn_hi L hlt, ehi, hy] at h9
    exact h9
   have hP := HL.out r hlt
   rw [ehi, elo, hx, hy] at hP
   obtain ⟨d, hd⟩ : ∃ d, x - y = d := ⟨_, rfl⟩
   rw [hd] at hP
   have hp : -8380417 * (2 * 8380417) ≤ -z * d ∧ -z * d ≤ 8380417 * 8380417 := by
    have h0 : 0 ≤ z * (x + 8380417 - y) ∧ z * (x + 8380417 - y) ≤ 8380417 * (2 * 8380417) := ⟨Int.mul_nonneg hzb.1 (by omega), Int.le_trans (Int.mul_le_mul_of_nonneg_right (Int.le_of_lt hzb.2) (by omega)) (Int.mul_le_mul_of_nonneg_left (by omega) (by decide))⟩
    have h1 : z * (x + 8380417 - y) = z * d + z * 8380417 := by rw [← hd, ← Int.mul_add]; congr 1; omega
    rw [h1] at h0
    have h2 : -z * d = -(z * d) := Int.neg_mul z d
    rw [h2]
    generalize z * d = q at h0 ⊢
    omega
   obtain ⟨p, hpe⟩ : ∃ p, -z * d = p := ⟨_, rfl⟩
   rw [hpe] at hp hP
   have f3 : IntKind.i64.wrap (x + y) = x + y := by rw [IntKind.wrap_i64]; omega
   have f4 : IntKind.i64.wrap (x - y) = d := by rw [IntKind.wrap_i64]; omega
   have f6 : IntKind.i64.wrap (-z) = -z := by rw [IntKind.wrap_i64]; omega
   have f5 : IntKind.i64.wrap (-z * d) = p := by rw [hpe, IntKind.wrap_i64]; omega
   obtain ⟨v1, hv1⟩ := ex_eq ((x + y) % 8380417)
   obtain ⟨v2, hv2⟩ := ex_eq ((p) % 8380417)
   have H1 : ∀ w1 : World, Calls Tryz.prog 54 #[.int .i64 (x + y)] w1 fun e w' => e = .returned (.int .i64 v1) ∧ w' = w1 := fun w1 => by rw [← hv1.out]; exact Hred.out _ w1
   have H2 : ∀ w1 : World, Calls Tryz.prog 54 #[.int .i64 (p)] w1 fun e w' => e = .returned (.int .i64 v2) ∧ w' = w1 := fun w1 => by rw [← hv2.out]; exact Hred.out _ w1
   have HU : Away (upd (upd (dn L s f (t * s + r)) lo v1) hi v2 = dn L s f (t * s + (r + 1))) := ⟨by
    have h9 := (dn_step (t := t) L hlt f v1 v2 (by rw [elo, hP.1]; exact hv1.out.symm) (by rw [ehi, hP.2]; exact hv2.out.symm)).2
    rw [elo, hhi] at h9
    exact h9⟩
   clear hx hy hxb hyb hzb hP hb hs elo ehi hlo hhi hp hd hpe
   go_wp2_with fail
   refine still_all (by kernel_rfl) (by kernel_rfl) ?_
   repeat still_step
   refine wpStill_nil ?_
   go_wp2_with fail
   refine any_begin (by kernel_rfl) ?_
   (focus (refine wpAny_take (i := 2) (v := ?_) rfl (by kernel_rfl) (by kernel_rfl) (by kernel_rfl) (fun _ _ _ h => h) (Or.inl ⟨by rfl, ?_⟩) ?_; rotate_left; focus (intro w; go_simp; first | done | with_reducible rfl); all_goals skip))
   (focus (refine wpAny_take (i := 3) (v := ?_) rfl (by kernel_rfl) (by kernel_rfl) (by kernel_rfl) (fun _ _ _ h => h) (Or.inl ⟨by rfl, ?_⟩) ?_; rotate_left; focus (intro w; go_simp; first | done | with_reducible rfl); all_goals skip))
   (focus (refine wpAny_take (i := 14) (v := ?_) rfl (by kernel_rfl) (by kernel_rfl) (by kernel_rfl) (fun _ _ _ h => h) (Or.inl ⟨by rfl, ?_⟩) ?_; rotate_left; focus (intro w; go_simp; first | done | with_reducible rfl); all_goals skip))
   refine any_still [0, 1, 4, 5, 6, 7, 8, 9, 10, 11, 12] 13 [15, 16] rfl (by kernel_rfl) ?_
   simp only [pick, List.filterMap_cons, List.filterMap_nil, List.getElem?_cons_succ, List.getElem?_cons_zero]
   repeat still_step
   still_call (H1 _)
   repeat still_step
   still_call (H2 _)
   repeat still_step
   refine wpStill_nil ?_
   have A1 : Away (At g (FL .i64 256 (dn L s f (t * s + r))) 25 w wr.drew.drew) := ⟨at_drew (at_drew A0.out)⟩
   clear A0 cx cy
   with_reducible refine wpList_put2 A1 rfl _ _ _ rfl rfl ?_
   refine ⟨_, _, _, rfl, rfl, rfl, by rw [fl_size]; exact Hlo.out, ?_⟩
   intro w5 A2
   rw [fl_set] at A2
   clear A1
   refine wpList_plain rfl (fun K hK => ?_)
   go_simp
   refine hK _ _ ?_
   clear hK K
   with_reducible refine wpList_put2 A2 rfl _ _ _ rfl rfl ?_
   refine ⟨_, _, _, rfl, rfl, rfl, (by rw [fl_size]; exact Hhi.out), ?_⟩
   intro w6 A3
   rw [fl_set, HU.out] at A3
   clear A2
   go_wp2_with fail
   go_roundw
   case rel => exact ⟨r + 1, by omega, by go_num, A3⟩
   case measure => simp [intOf]; omega
  ·obtain rfl : r = s := by omega
   rw [Hend.out] at A0
   go_wp2_with fail
   refine bodyPost_end (v := .tuple #[]) (results_none rfl _ _ _) rfl ?_
   exact ⟨rfl, A0.out⟩
end njoin
end Go.Proofs.YtlcafjdehcddcaaGreatDoor
